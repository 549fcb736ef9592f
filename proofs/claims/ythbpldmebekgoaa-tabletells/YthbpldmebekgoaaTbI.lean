/- The document on tables: NearestOf. -/
import Derived.Test.YthbpldmebekgoaaTbH
set_option linter.unusedVariables false
set_option linter.unusedSimpArgs false
namespace Go.Proofs.Ythbpldmebekgoaa
open Go.RowKit

/-- r is the place of the one with the most bits that has q, but for place n; -1: there is none. -/
def IsNear (ps : List Pf) (q : Pf) (n : Int) (r : Int) : Prop :=
  (r = -1 ∧ ∀ i (h : i < ps.length), (i : Int) ≠ n → (ps[i]).has q = false) ∨
  (∃ i : Nat, ∃ h : i < ps.length, r = i ∧ (i : Int) ≠ n ∧ (ps[i]).has q = true ∧ ∀ j (h : j < ps.length), (j : Int) ≠ n → (ps[j]).has q = true → (ps[j]).b ≤ (ps[i]).b)

set_option maxHeartbeats 8000000 in
set_option maxRecDepth 100000 in
theorem near_any (a : Option Addr) (c : Nat) (ps : List Pf) (v : Bool) (hi lo : Nat) (b : Int) (n : Int) (w : World) (hR : ∀ p ∈ ps, p.R) (hl : ps.length ≤ 12) (hs : Sl w a ps) (hq : Right v hi lo b) :
    Calls Try.prog 9 #[.slice a ps.length c, .agg #[.bool v, .int .u64 hi, .int .u64 lo, .int .i64 b], .int .i64 n] w fun e w' => ∃ r : Int, e = .returned (.int .i64 r) ∧ IsNear ps ⟨v, hi, lo, b⟩ n r ∧ Below w.heap.size w w' := by
  have HP := Lib.hid (Has4.new w v hi lo b 37)
  have HB := Lib.hid (bal (Below.refl w.heap.size w) (.cells #[.bool v, .int .u64 (hi : Int), .int .u64 (lo : Int), .int .i64 b] 37))
  obtain ⟨N, hN⟩ : ∃ N, N = ps.length := ⟨_, rfl⟩
  rw [← hN] at hl ⊢
  have HN : Hid (N = ps.length) := hN
  clear hN
  go_enter Try.func9, Try.ntmps9
  go_wp2_with fail
  go_loopw [7] (fun vb wr => ∃ K : Nat, vb = .int .i64 ((K : Int) - 1) ∧ K ≤ 129 ∧ Hid (Has4 wr w.heap.size v hi lo b) ∧ Hid (Below w.heap.size w wr) ∧ Hid (∀ i (h : i < ps.length), (i : Int) ≠ n → (ps[i]).has ⟨v, hi, lo, b⟩ = true → (ps[i]).b < (K : Int)))
    (fun vb _ => (intOf vb + 1).toNat)
  case atStart =>
    refine ⟨129, rfl, Nat.le_refl _, HP, HB, fun i h _ _ => ?_⟩
    have := (hR _ (List.getElem_mem h)).b1
    have hw : wid (ps[i]).v ≤ 128 := by unfold wid; split <;> omega
    omega
  case round =>
    obtain ⟨K, rfl, hK, HP, HB, HI⟩ := hrel
    by_cases hK0 : K = 0
    · subst hK0
      have hfin : IsNear ps ⟨v, hi, lo, b⟩ n (-1) := by
        refine .inl ⟨rfl, fun i h hn => ?_⟩
        cases hh : (ps[i]).has ⟨v, hi, lo, b⟩
        · rfl
        · have h1 := HI.out i h hn hh
          have h2 := (hR _ (List.getElem_mem h)).b0
          omega
      have HF := Lib.hid hfin
      clear hfin HI hs hR
      go_wp2_with fail
      go_ret
      exact ⟨_, rfl, HF.out, HB.out⟩
    · obtain ⟨k, rfl⟩ : ∃ k, K = k + 1 := ⟨K - 1, by omega⟩
      have hsub : ((k + 1 : Nat) : Int) - 1 = (k : Int) := by omega
      rw [hsub]
      have hk0 : (0 : Int) ≤ (k : Int) := by omega
      have hwk : IntKind.i64.wrap ((k : Int) - 1) = (k : Int) - 1 := by rw [IntKind.wrap_i64]; omega
      go_wp2_with fail
      go_loopw [8] (fun vi wr => ∃ i : Nat, vi = .int .i64 i ∧ i ≤ N ∧ Hid (Has4 wr w.heap.size v hi lo b) ∧ Hid (Below w.heap.size w wr) ∧ Hid (∀ j (h : j < ps.length), j < i → (j : Int) ≠ n → (ps[j]).has ⟨v, hi, lo, b⟩ = true → (ps[j]).b ≠ (k : Int)))
        (fun vi _ => N - (intOf vi).toNat)
      case atStart => exact ⟨0, rfl, Nat.zero_le _, HP, HB, fun j _ h => by omega⟩
      case round =>
        clear HP HB
        obtain ⟨i, rfl, hi', HP, HB, HJ⟩ := hrel
        have hN := HN.out
        by_cases hiN : i < N
        · have hil : i < ps.length := by omega
          have hi1 : (0 : Int) ≤ (i : Int) := by omega
          have hi2 : (i : Int) < (N : Int) := by omega
          by_cases hin : (i : Int) = n
          · have HJ2 : Hid (∀ j (h : j < ps.length), j < i + 1 → (j : Int) ≠ n → (ps[j]).has ⟨v, hi, lo, b⟩ = true → (ps[j]).b ≠ (k : Int)) := fun j h hj hn hh => by
              by_cases hji : j = i
              · subst hji; exact absurd hin hn
              · exact HJ.out j h (by omega) hn hh
            have hin' : ((i : Int) != n) = false := by simp [hin]
            clear HJ HI hN hR hs hin
            go_wp2_with fail
            go_region
            go_wp2_with fail
            go_roundw
            case rel => exact ⟨i + 1, by go_num, by omega, HP, Lib.hid HB.out.drew, HJ2⟩
            case measure => simp [intOf]; omega
          · have hin' : ((i : Int) != n) = true := by rw [bne_iff_ne]; exact hin
            obtain ⟨g, o, rfl, hg, c0, c1, c2, c3⟩ := hs i hil
            rw [← (bcell HB.out).1 _ _ hg] at c0 c1 c2 c3
            have hgr : g < wr.heap.size := Nat.lt_of_lt_of_le hg HB.out.size
            have hRi := hR _ (List.getElem_mem hil)
            by_cases hbk : (ps[i]).b = (k : Int)
            · have hok : (ps[i]).Ok := ⟨hRi.h0, hRi.h1, hRi.l0, hRi.l1⟩
              obtain ⟨xh, xl, e1, e2, _, _⟩ := hok.nat
              have hyes : (ps[i]).has ⟨v, hi, lo, b⟩ = hasB (ps[i]).v xh xl k v hi lo b := by rw [Pf.has, e1, e2, hbk]
              have hRi' : Right (ps[i]).v xh xl (k : Int) := by have := hRi; rw [Pf.R, e1, e2, hbk] at this; exact this
              rw [e1] at c1
              rw [e2] at c2
              rw [hbk] at c3
              have hb1 : ∀ j (h : j < ps.length), (j : Int) ≠ n → (ps[j]).has ⟨v, hi, lo, b⟩ = true → (ps[j]).b ≤ (ps[i]).b := fun j h hn hh => by
                have := HI.out j h hn hh
                rw [hbk]; omega
              have hres : hasB (ps[i]).v xh xl k v hi lo b = true → IsNear ps ⟨v, hi, lo, b⟩ n i := fun hh => .inr ⟨i, hil, rfl, hin, by rw [hyes]; exact hh, hb1⟩
              have HJ2 : Hid (hasB (ps[i]).v xh xl k v hi lo b = false → ∀ j (h : j < ps.length), j < i + 1 → (j : Int) ≠ n → (ps[j]).has ⟨v, hi, lo, b⟩ = true → (ps[j]).b ≠ (k : Int)) := fun hf j h hj hn hh => by
                by_cases hji : j = i
                · subst hji; rw [hyes, hf] at hh; exact absurd hh (by decide)
                · exact HJ.out j h (by omega) hn hh
              have HR2 := Lib.hid hres
              generalize (ps[i]).v = xv at *
              have hF : Hid (∀ w : World, Calls Try.prog 21 #[.agg #[.bool xv, .int .u64 (xh : Int), .int .u64 (xl : Int), .int .i64 (k : Int)], .agg #[.bool v, .int .u64 (hi : Int), .int .u64 (lo : Int), .int .i64 b]] w fun e w' => e = .returned (.bool (hasB xv xh xl k v hi lo b)) ∧ Below w.heap.size w w') := fun w => hasPrefix_any xv xh xl k v hi lo b w hRi' hq
              have hkk : ((k : Int) == (k : Int)) = true := by simp
              clear hb1 hres hyes hRi hRi' hok e1 e2 hbk hin HJ HI hN hR hs
              generalize hasB xv xh xl k v hi lo b = r at *
              have HC := Lib.hid (And.intro c0 (And.intro c1 (And.intro c2 (And.intro c3 hgr))))
              clear c0 c1 c2 c3
              cases r
              · rw [show ((false = false) → ∀ j (h : j < ps.length), j < i + 1 → (j : Int) ≠ n → (ps[j]).has ⟨v, hi, lo, b⟩ = true → (ps[j]).b ≠ (k : Int)) = (∀ j (h : j < ps.length), j < i + 1 → (j : Int) ≠ n → (ps[j]).has ⟨v, hi, lo, b⟩ = true → (ps[j]).b ≠ (k : Int)) by simp] at HJ2
                go_wp2_with fail
                go_region_held3 (fun w' => (w'.cell? ⟨w.heap.size, 0, none⟩ = some (.bool v) ∧ w'.cell? ⟨w.heap.size, 1, none⟩ = some (.int .u64 (hi : Int)) ∧ w'.cell? ⟨w.heap.size, 2, none⟩ = some (.int .u64 (lo : Int)) ∧ w'.cell? ⟨w.heap.size, 3, none⟩ = some (.int .i64 b) ∧ w.heap.size < w'.heap.size) ∧ (w'.cell? ⟨g, o + i * 4, none⟩ = some (.bool xv) ∧ w'.cell? ⟨g, o + i * 4 + 1, none⟩ = some (.int .u64 (xh : Int)) ∧ w'.cell? ⟨g, o + i * 4 + 2, none⟩ = some (.int .u64 (xl : Int)) ∧ w'.cell? ⟨g, o + i * 4 + 3, none⟩ = some (.int .i64 (k : Int)) ∧ g < w'.heap.size) ∧ Below w.heap.size w w')
                  (first | exact ⟨HP.out, HC.out, HB.out.drew⟩ | exact keepR (by assumption) (by assumption))
                  ((go_at_call 21; refine (hF.out _).mono ?_; rintro e w' ⟨rfl, hb⟩))
                go_wp2_with fail
                go_roundw
                case rel => exact ⟨i + 1, by go_num, by omega, And.left (by assumption), And.right (And.right (by assumption)), HJ2⟩
                case measure => simp [intOf]; omega
              · have HF := Lib.hid (HR2.out rfl)
                clear HR2 HJ2
                go_wp2_with fail
                go_region_held3 (fun w' => (w'.cell? ⟨w.heap.size, 0, none⟩ = some (.bool v) ∧ w'.cell? ⟨w.heap.size, 1, none⟩ = some (.int .u64 (hi : Int)) ∧ w'.cell? ⟨w.heap.size, 2, none⟩ = some (.int .u64 (lo : Int)) ∧ w'.cell? ⟨w.heap.size, 3, none⟩ = some (.int .i64 b) ∧ w.heap.size < w'.heap.size) ∧ (w'.cell? ⟨g, o + i * 4, none⟩ = some (.bool xv) ∧ w'.cell? ⟨g, o + i * 4 + 1, none⟩ = some (.int .u64 (xh : Int)) ∧ w'.cell? ⟨g, o + i * 4 + 2, none⟩ = some (.int .u64 (xl : Int)) ∧ w'.cell? ⟨g, o + i * 4 + 3, none⟩ = some (.int .i64 (k : Int)) ∧ g < w'.heap.size) ∧ Below w.heap.size w w')
                  (first | exact ⟨HP.out, HC.out, HB.out.drew⟩ | exact keepR (by assumption) (by assumption))
                  ((go_at_call 21; refine (hF.out _).mono ?_; rintro e w' ⟨rfl, hb⟩))
                go_wp2_with fail
                go_ret
                exact ⟨_, rfl, HF.out, And.right (And.right (by assumption))⟩
            · have HJ2 : Hid (∀ j (h : j < ps.length), j < i + 1 → (j : Int) ≠ n → (ps[j]).has ⟨v, hi, lo, b⟩ = true → (ps[j]).b ≠ (k : Int)) := fun j h hj hn hh => by
                by_cases hji : j = i
                · subst hji; exact hbk
                · exact HJ.out j h (by omega) hn hh
              have hbk' : ((ps[i]).b == (k : Int)) = false := by rw [beq_eq_false_iff_ne]; exact hbk
              generalize (ps[i]).b = bb at *
              clear HJ HI hN hR hs hin hRi c0 c1 c2 hbk
              go_wp2_with fail
              go_region
              go_wp2_with fail
              go_roundw
              case rel => exact ⟨i + 1, by go_num, by omega, HP, Lib.hid HB.out.drew, HJ2⟩
              case measure => simp [intOf]; omega
        · have HI2 : Hid (∀ i (h : i < ps.length), (i : Int) ≠ n → (ps[i]).has ⟨v, hi, lo, b⟩ = true → (ps[i]).b < (k : Int)) := fun j h hn hh => by
            have h1 := HI.out j h hn hh
            have h2 := HJ.out j h (by omega) hn hh
            omega
          clear HJ HI hN hR hs
          go_wp2_with fail
          go_roundw
          case rel => exact ⟨k, by go_num, by omega, HP, HB, HI2⟩
          case measure => simp [intOf]
end Go.Proofs.Ythbpldmebekgoaa
