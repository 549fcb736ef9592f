/- table.nearest: the last one of those that are looked for. -/
import Derived.Test.YthbpldmebekgoaaTbB
set_option linter.unusedVariables false
set_option linter.unusedSimpArgs false
namespace Go.Proofs.Ythbpldmebekgoaa
open Go.RowKit

/-- The last place at which p holds. -/
def lastI {α : Type} (p : α → Bool) : List α → Option Nat
  | [] => none
  | x :: r => match lastI p r with
    | some i => some (i + 1)
    | none => if p x then some 0 else none
theorem lastI_snoc {α : Type} (p : α → Bool) (x : α) : ∀ l : List α, lastI p (l ++ [x]) = if p x = true then some l.length else lastI p l
  | [] => by simp [lastI]
  | y :: r => by
    rw [List.cons_append, lastI, lastI_snoc p x r]
    by_cases h : p x = true
    · simp [h]
    · simp [h, lastI]
def nrI (r : Option Nat) : Int := match r with | none => 0 | some i => (i : Int)

def Pf.val (p : Pf) : Value := .agg #[.bool p.v, .int .u64 p.hi, .int .u64 p.lo, .int .i64 p.b]

set_option maxHeartbeats 8000000 in
set_option maxRecDepth 100000 in
theorem nearest_any (a : Option Addr) (c : Nat) (ps : List Pf) (w : World) (g : Nat) (lb : Array Value) (p : Pf → Bool) (hl : ps.length ≤ 12) (hs : Sl w a ps) (eg : ∀ args w, (callFunc g args).run Try.prog w = .ok (.enter g args) w)
    (hp : ∀ (W : World) (x : Pf), x ∈ ps → Below w.heap.size w W → Calls Try.prog g (#[.agg #[.bool x.v, .int .u64 x.hi, .int .u64 x.lo, .int .i64 x.b]] ++ lb) W fun e w' => e = .returned (.bool (p x)) ∧ Below w.heap.size w w') :
    Calls Try.prog 14 #[.slice a ps.length c, .func (.func g) #[] lb] w fun e w' => e = .returned (.tuple #[.int .i64 (nrI (lastI p ps)), .bool (lastI p ps).isSome]) ∧ Below w.heap.size w w' := by
  obtain ⟨N, hN⟩ : ∃ N, N = ps.length := ⟨_, rfl⟩
  rw [← hN] at hl ⊢
  have HN : Hid (N = ps.length) := hN
  have hwr : IntKind.i64.wrap ((N : Int) - 1) = (N : Int) - 1 := by rw [IntKind.wrap_i64]; omega
  clear hN
  go_enter Try.func14, Try.ntmps14
  go_wp2_with fail
  go_loopw [6] (fun vi wr => ∃ k : Nat, vi = .int .i64 ((k : Int) - 1) ∧ k ≤ N ∧ Below w.heap.size w wr ∧ Hid (lastI p ps = lastI p (ps.take k)))
    (fun vi _ => (intOf vi + 1).toNat)
  case atStart => exact ⟨N, rfl, Nat.le_refl _, Below.refl _ _, by rw [HN.out, List.take_length]; exact (rfl : lastI p ps = lastI p ps)⟩
  case round =>
    obtain ⟨k, rfl, hk, hb, hh⟩ := hrel
    have hN := HN.out
    by_cases hk0 : k = 0
    · subst hk0
      have hd := hh.out
      rw [List.take_zero, lastI] at hd
      have HD : Hid (lastI p ps = none) := hd
      clear hd hh hN hs hp
      go_wp2_with fail
      go_ret2
      exact ⟨by rw [HD.out]; rfl, hb⟩
    · obtain ⟨m, rfl⟩ : ∃ m, k = m + 1 := ⟨k - 1, by omega⟩
      have hml : m < ps.length := by omega
      obtain ⟨gg, o, rfl, hg, c0, c1, c2, c3⟩ := hs m hml
      have hdec := hh.out
      rw [List.take_succ_eq_append_getElem hml, lastI_snoc] at hdec
      rw [List.length_take_of_le (by omega)] at hdec
      rw [← (bcell hb).1 _ _ hg] at c0 c1 c2 c3
      have hcall := hp wr ps[m] (List.getElem_mem hml) hb
      have hsub : ((m + 1 : Nat) : Int) - 1 = (m : Int) := by omega
      rw [hsub]
      generalize ps[m] = x at *
      obtain ⟨v, hi, lo, b⟩ := x
      simp only at c0 c1 c2 c3 hcall
      have hm1 : (0 : Int) ≤ (m : Int) := by omega
      have hm2 : (m : Int) < (N : Int) := by omega
      have hwm : IntKind.i64.wrap ((m : Int) - 1) = (m : Int) - 1 := by rw [IntKind.wrap_i64]; omega
      clear hs hp hh hN hsub hwr
      have HC := Lib.hid hcall
      clear hcall hk0
      cases hq : p ⟨v, hi, lo, b⟩ with
      | true =>
        rw [hq] at HC hdec
        simp only [if_true] at hdec
        have HD : Hid (lastI p ps = some m) := hdec
        clear hq hdec
        go_wp2_with fail
        refine HC.out.mono ?_
        rintro e w2 ⟨rfl, hb2⟩
        go_wp2_with fail
        go_ret2
        exact ⟨by rw [HD.out]; rfl, hb2⟩
      | false =>
        rw [hq] at HC hdec
        have hdec' : lastI p ps = lastI p (ps.take m) := by simpa using hdec
        have HD := Lib.hid hdec'
        clear hdec'
        clear hq hdec
        go_wp2_with fail
        refine HC.out.mono ?_
        rintro e w2 ⟨rfl, hb2⟩
        go_wp2_with fail
        go_roundw
        case rel => exact ⟨m, by go_num, by omega, hb2, HD⟩
        case measure => simp [intOf]
end Go.Proofs.Ythbpldmebekgoaa
