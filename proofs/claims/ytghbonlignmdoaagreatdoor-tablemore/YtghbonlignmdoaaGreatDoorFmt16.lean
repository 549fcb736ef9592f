/- strconv.FormatUint at base 16, of two bytes. -/
import Derived.Test.YtghbonlignmdoaaGreatDoorFmt10
set_option linter.unusedVariables false
set_option linter.unusedSimpArgs false
namespace Go.Proofs.YtghbonlignmdoaaGreatDoor
open Go.RowKit

theorem pow2_16 (w : World) : Calls Tryz.prog 84 #[.int .i64 16] w fun e w' => e = .returned (.bool true) ∧ w' = w := by
  have h : bits .and .i64 16 15 = 0 := by decide +kernel
  go_enter Tryz.func84, Tryz.ntmps84
  go_wp2
  go_ret
  exact ⟨rfl, rfl⟩

theorem tz64_16 (w : World) (hc : w.cell? ⟨5, 15, none⟩ = some (.int .u8 4)) : Calls Tryz.prog 104 #[.int .u64 16] w fun e w' => e = .returned (.int .i64 4) ∧ w' = w := by
  have hx : IntKind.u64.wrap (bits .and .u64 16 (IntKind.u64.wrap (-16)) * 285870213051353865) / 288230376151711744 = 15 := by decide +kernel
  go_enter Tryz.func104, Tryz.ntmps104
  go_wp2
  go_ret
  exact ⟨rfl, rfl⟩
theorem tz_16 (w : World) (hc : w.cell? ⟨5, 15, none⟩ = some (.int .u8 4)) : Calls Tryz.prog 85 #[.int .u64 16] w fun e w' => e = .returned (.int .i64 4) ∧ w' = w := by
  have H : Hid (Calls Tryz.prog 104 #[.int .u64 16] w fun e w' => e = .returned (.int .i64 4) ∧ w' = w) := tz64_16 w hc
  go_enter Tryz.func85, Tryz.ntmps85
  go_wp2_with fail
  refine H.out.mono ?_
  rintro e w' ⟨rfl, rfl⟩
  go_wp2
  go_ret
  exact ⟨rfl, rfl⟩

/-- A hexadecimal digit. -/
def hexd (k : Nat) : UInt8 := UInt8.ofNat (if k < 10 then 48 + k else 87 + k)

theorem zc65 (j : Nat) (h : j < 65) : Tryz.zeroCells128[j]? = some (.int .u8 0) := by
  have e : Tryz.zeroCells128 = Array.replicate 65 (.int .u8 0) := rfl
  rw [e, Array.getElem?_replicate, if_pos h]

theorem hex_lit : ∀ k : Fin 16, (({ data := #[48, 49, 50, 51, 52, 53, 54, 55, 56, 57, 97, 98, 99, 100, 101, 102, 103, 104, 105, 106, 107, 108, 109, 110, 111, 112, 113, 114, 115, 116, 117, 118, 119, 120, 121, 122] } : ByteArray)[k.val]'(by have := k.isLt; show k.val < 36; omega)).toNat = (hexd k.val).toNat := by decide +kernel
theorem hex_at (k : Nat) (h : k < 16) (h' : k < ({ data := #[48, 49, 50, 51, 52, 53, 54, 55, 56, 57, 97, 98, 99, 100, 101, 102, 103, 104, 105, 106, 107, 108, 109, 110, 111, 112, 113, 114, 115, 116, 117, 118, 119, 120, 121, 122] } : ByteArray).size) : (({ data := #[48, 49, 50, 51, 52, 53, 54, 55, 56, 57, 97, 98, 99, 100, 101, 102, 103, 104, 105, 106, 107, 108, 109, 110, 111, 112, 113, 114, 115, 116, 117, 118, 119, 120, 121, 122] } : ByteArray)[k]'h').toNat = (hexd k).toNat := hex_lit ⟨k, h⟩
theorem and4 (n : Nat) (h : n < 18446744073709551616) : bits .and .u64 (n : Int) 15 = ((n % 16 : Nat) : Int) := by
  rw [show (15 : Int) = ((15 : Nat) : Int) from rfl, u64_and_nat _ _ h (by decide), show (15 : Nat) = 2 ^ 4 - 1 from rfl, Nat.and_two_pow_sub_one_eq_mod]

/-- The bytes of a row, as a string. -/
theorem cvt (W : World) (B o c : Nat) (l : List UInt8) (n : Nat) (hn : n = l.length) (h : ∀ j (hj : j < l.length), W.cell? ⟨B, o + j, none⟩ = some (.int .u8 ((l[j]).toNat : Int))) :
    (convert 103 9 (.slice (some ⟨B, o, none⟩) n c)).run Tryz.prog W = .ok (.string ⟨l.toArray⟩) W := by
  subst hn
  exact run_convert_bytes_back (P := Tryz.prog) W 103 9 5 ⟨B, o, none⟩ c l Tryz.underlying103 Tryz.underlying5 Tryz.underlying9 (fun j hj => by rw [Lib.add_plain]; exact h j hj)

/-- Hexadecimal digits, no noughts ahead, of two bytes. -/
def hexs (u : Nat) : List UInt8 :=
  if u < 16 then [hexd u] else if u < 256 then [hexd (u / 16), hexd (u % 16)] else if u < 4096 then [hexd (u / 16 / 16), hexd (u / 16 % 16), hexd (u % 16)]
  else [hexd (u / 16 / 16 / 16), hexd (u / 16 / 16 % 16), hexd (u / 16 % 16), hexd (u % 16)]

def hv (k : Nat) : Value := .int .u8 ((hexd k).toNat : Int)

set_option maxHeartbeats 32000000 in
set_option maxRecDepth 100000 in
theorem fbits16 (u : Nat) (w : World) (hg : Good w) (hu : u < 65536) :
    Calls Tryz.prog 70 #[.slice none 0 0, .int .u64 u, .int .i64 16, .bool false, .bool false] w fun e w' => ∃ v, e = .returned (.tuple #[v, .string ⟨(hexs u).toArray⟩]) ∧ RowKit.Below w.heap.size w w' := by
  have hp : Hid (∀ w, Calls Tryz.prog 84 #[.int .i64 16] w fun e w' => e = .returned (.bool true) ∧ w' = w) := fun w => pow2_16 w
  have ht : Hid (∀ w : World, Good w → Calls Tryz.prog 85 #[.int .u64 16] w fun e w' => e = .returned (.int .i64 4) ∧ w' = w) := fun w h => tz_16 w h.tz
  have hg1 : ∀ o, Good (w.alloc o) := fun o => hg.below (bal (RowKit.Below.refl _ _) _)
  have HG : Hid (∀ o, Good (w.alloc o)) := hg1
  have HU : Hid (u < 65536) := hu
  clear hg1 hu hg
  go_enter Tryz.func70, Tryz.ntmps70
  go_wp2_with fail
  refine (hp.out _).mono ?_
  rintro e w' ⟨rfl, rfl⟩
  go_wp2_with fail
  refine (ht.out _ (HG.out _)).mono ?_
  rintro e w' ⟨rfl, rfl⟩
  have hc : ∀ j, j < 65 → (w.alloc (.cells Tryz.zeroCells128 128)).cell? ⟨w.heap.size, j, none⟩ = some (.int .u8 0) := by
    intro j hj
    rw [World.cell?_alloc_new]
    exact zc65 j hj
  have hf : ∀ j, (w.alloc (.cells Tryz.zeroCells128 128)).frozen? ⟨w.heap.size, j, none⟩ = false := fun j => World.frozen?_alloc_new _ _ _ _
  have hB : RowKit.Below w.heap.size w (w.alloc (.cells Tryz.zeroCells128 128)) := bal (RowKit.Below.refl _ _) _
  have c64 := hc 64 (by decide)
  have c63 := hc 63 (by decide)
  have c62 := hc 62 (by decide)
  have c61 := hc 61 (by decide)
  have f64 := hf 64
  have f63 := hf 63
  have f62 := hf 62
  have f61 := hf 61
  have HB : Hid (RowKit.Below w.heap.size w (w.alloc (.cells Tryz.zeroCells128 128))) := hB
  generalize w.alloc (.cells Tryz.zeroCells128 128) = W at hc hf hB c64 f64 c63 c62 c61 f63 f62 f61 HB ⊢
  clear hc hf hB hp ht HG
  go_wp2_with fail
  go_loopw [1, 13] (fun vu vi wr => ∃ t : Nat, vu = .int .u64 t ∧ t < 65536 ∧
      ((vi = .int .i64 65 ∧ wr = W ∧ Hid (t = u)) ∨
       (vi = .int .i64 64 ∧ wr = W.setCell ⟨w.heap.size, 64, none⟩ (hv (u % 16)) ∧ Hid (t = u / 16 ∧ 16 ≤ u)) ∨
       (vi = .int .i64 63 ∧ wr = (W.setCell ⟨w.heap.size, 64, none⟩ (hv (u % 16))).setCell ⟨w.heap.size, 63, none⟩ (hv (u / 16 % 16)) ∧ Hid (t = u / 16 / 16 ∧ 256 ≤ u)) ∨
       (vi = .int .i64 62 ∧ wr = ((W.setCell ⟨w.heap.size, 64, none⟩ (hv (u % 16))).setCell ⟨w.heap.size, 63, none⟩ (hv (u / 16 % 16))).setCell ⟨w.heap.size, 62, none⟩ (hv (u / 16 / 16 % 16)) ∧ Hid (t = u / 16 / 16 / 16 ∧ 4096 ≤ u))))
    (fun vu _ _ => (intOf vu).toNat)
  case atStart => exact ⟨u, rfl, HU.out, .inl ⟨rfl, rfl, rfl⟩⟩
  case round =>
    obtain ⟨t, rfl, htl, hr⟩ := hrel
    have hA := and4 t (by omega)
    by_cases h16 : 16 ≤ t
    · have hx := hex_at (t % 16) (Nat.mod_lt _ (by decide)) (by show t % 16 < 36; omega)
      have hI : (16 : Int) ≤ (t : Int) := by omega
      have hm16 : ((t % 16 : Nat) : Int) < 36 := by omega
      rcases hr with ⟨rfl, rfl, hh⟩ | ⟨rfl, rfl, hh⟩ | ⟨rfl, rfl, hh⟩ | ⟨rfl, rfl, hh⟩
      · have e := hh.out
        subst e
        go_wp2_with fail
        exact ⟨⟨t / 16, by go_num, by omega, .inr (.inl ⟨rfl, rfl, rfl, h16⟩)⟩, by simp [intOf]; omega⟩
      · obtain ⟨e, h1⟩ := hh.out
        have HE : Hid (t = u / 16) := e
        have h256 : 256 ≤ u := by omega
        clear hh e
        go_wp2_with fail
        exact ⟨⟨t / 16, by go_num, by omega, .inr (.inr (.inl ⟨rfl, by rw [HE.out]; rfl, by rw [HE.out], h256⟩))⟩, by simp [intOf]; omega⟩
      · obtain ⟨e, h1⟩ := hh.out
        have HE : Hid (t = u / 16 / 16) := e
        have h4096 : 4096 ≤ u := by omega
        clear hh e
        go_wp2_with fail
        exact ⟨⟨t / 16, by go_num, by omega, .inr (.inr (.inr ⟨rfl, by rw [HE.out]; rfl, by rw [HE.out], h4096⟩))⟩, by simp [intOf]; omega⟩
      · exfalso
        obtain ⟨h1, h2⟩ := hh.out
        have := HU.out
        omega
    · clear hA
      have hx := hex_at t (by omega) (by show t < 36; omega)
      have hI : ¬ (16 : Int) ≤ (t : Int) := by omega
      have ht16 : t < 16 := by omega
      have ht36 : (t : Int) < 36 := by omega
      rcases hr with ⟨rfl, rfl, hh⟩ | ⟨rfl, rfl, hh⟩ | ⟨rfl, rfl, hh⟩ | ⟨rfl, rfl, hh⟩
      · have e := hh.out
        have HE : Hid (hexs u = [hexd t]) := by rw [← e]; simp [Hid, hexs, ht16]
        clear hh e
        go_wp2_with fail
        rw [cvt _ w.heap.size 64 1 [hexd t] 1 rfl (by intro j hj; match j, hj with | 0, _ => simp [go_sem, c64])]
        go_wp2
        go_ret2
        exact ⟨_, by rw [HE.out]; rfl, bse HB.out (by simp) _⟩
      · obtain ⟨e, h1⟩ := hh.out
        have HE : Hid (hexs u = [hexd t, hexd (u % 16)]) := by
          rw [Hid, hexs, if_neg (by omega), if_pos (by omega), e]
        clear hh e
        go_wp2_with fail
        rw [cvt _ w.heap.size 63 2 [hexd t, hexd (u % 16)] 2 rfl (by
          intro j hj
          match j, hj with
          | 0, _ => simp [go_sem, c64, c63]
          | 1, _ => simp [go_sem, c64, c63, hv])]
        go_wp2
        go_ret2
        exact ⟨_, by rw [HE.out]; rfl, bse (bse HB.out (by simp) _) (by simp) _⟩
      · obtain ⟨e, h1⟩ := hh.out
        have HE : Hid (hexs u = [hexd t, hexd (u / 16 % 16), hexd (u % 16)]) := by
          rw [Hid, hexs, if_neg (by omega), if_neg (by omega), if_pos (by omega), e]
        clear hh e
        go_wp2_with fail
        rw [cvt _ w.heap.size 62 3 [hexd t, hexd (u / 16 % 16), hexd (u % 16)] 3 rfl (by
          intro j hj
          match j, hj with
          | 0, _ => simp [go_sem, c64, c63, c62]
          | 1, _ => simp [go_sem, c64, c63, c62, hv]
          | 2, _ => simp [go_sem, c64, c63, c62, hv])]
        go_wp2
        go_ret2
        exact ⟨_, by rw [HE.out]; rfl, bse (bse (bse HB.out (by simp) _) (by simp) _) (by simp) _⟩
      · obtain ⟨e, h1⟩ := hh.out
        have HE : Hid (hexs u = [hexd t, hexd (u / 16 / 16 % 16), hexd (u / 16 % 16), hexd (u % 16)]) := by
          rw [Hid, hexs, if_neg (by omega), if_neg (by omega), if_neg (by omega), e]
        clear hh e
        go_wp2_with fail
        rw [cvt _ w.heap.size 61 4 [hexd t, hexd (u / 16 / 16 % 16), hexd (u / 16 % 16), hexd (u % 16)] 4 rfl (by
          intro j hj
          match j, hj with
          | 0, _ => simp [go_sem, c64, c63, c62, c61]
          | 1, _ => simp [go_sem, c64, c63, c62, c61, hv]
          | 2, _ => simp [go_sem, c64, c63, c62, c61, hv]
          | 3, _ => simp [go_sem, c64, c63, c62, c61, hv])]
        go_wp2
        go_ret2
        exact ⟨_, by rw [HE.out]; rfl, bse (bse (bse (bse HB.out (by simp) _) (by simp) _) (by simp) _) (by simp) _⟩

/-- strconv.FormatUint at base 16. -/
theorem fmt16 (u : Nat) (w : World) (hg : Good w) (hu : u < 65536) :
    Calls Tryz.prog 55 #[.int .u64 u, .int .i64 16] w fun e w' => e = .returned (.string ⟨(hexs u).toArray⟩) ∧ RowKit.Below w.heap.size w w' := by
  have H : Hid (Calls Tryz.prog 70 #[.slice none 0 0, .int .u64 u, .int .i64 16, .bool false, .bool false] w fun e w' => ∃ v, e = .returned (.tuple #[v, .string ⟨(hexs u).toArray⟩]) ∧ RowKit.Below w.heap.size w w') := fbits16 u w hg hu
  have H2 : Hid (Calls Tryz.prog 63 #[.int .u64 u, .int .i64 16] w fun e w' => e = .returned (.string ⟨(hexs u).toArray⟩) ∧ RowKit.Below w.heap.size w w') := by
    go_enter Tryz.func63, Tryz.ntmps63
    go_wp2_with fail
    refine H.out.mono ?_
    rintro e w' ⟨v, rfl, hb⟩
    go_wp2
    go_ret
    exact ⟨rfl, hb⟩
  go_enter Tryz.func55, Tryz.ntmps55
  go_wp2_with fail
  refine H2.out.mono ?_
  rintro e w' ⟨rfl, hb⟩
  go_wp2
  go_ret
  exact ⟨rfl, hb⟩
end Go.Proofs.YtghbonlignmdoaaGreatDoor
