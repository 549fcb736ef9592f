/- number.Read and addr.readGroup: what each reads of a text. -/
import Derived.Test.YtghbonlignmdoaaGreatDoorPub
set_option linter.unusedVariables false
set_option linter.unusedSimpArgs false
namespace Go.Proofs.YtghbonlignmdoaaGreatDoor
open Go.RowKit

theorem pu_le {base mx : Nat} : ∀ (l : List UInt8) (acc n : Nat), acc ≤ mx → pu base mx acc l = .ok n → n ≤ mx
  | [], acc, n, h0, h => by simp [pu] at h; omega
  | c :: r, acc, n, h0, h => by
    rw [pu] at h
    split at h
    · cases h
    · split at h
      · cases h
      · exact pu_le r _ _ (by omega) h
theorem puS_le {base mx : Nat} {l : List UInt8} {n : Nat} (h : puS base mx l = .ok n) : n ≤ mx := by
  unfold puS at h
  split at h
  · cases h
  · exact pu_le l 0 n (Nat.zero_le _) h

/-- A group of a text: one to four hexadecimal digits. -/
def rgrp (l : List UInt8) : Option Nat := if 4 < l.length then none else match puS 16 65535 l with | .ok n => some n | .error _ => none

/-- What a reader comes to: a value, or it gives up. -/
def rdEnd (o : Option Value) : Ending := match o with | some v => .returned v | none => .panicked gaveUp

theorem size_list (s : ByteArray) : s.data.toList.length = s.size := (Lib.size_eq s).symm

theorem readGroup_any (s : ByteArray) (w : World) (hg : Good w) (hs : s.size ≤ 281474976710656) :
    Calls Tryz.prog 107 #[.string s] w fun e w' => e = rdEnd ((rgrp s.data.toList).map fun n : Nat => Value.int .u64 (n : Int)) ∧ Below w.heap.size w w' := by
  have hsl := size_list s
  have hgu := fun w => giveUp_any w
  have HG : Hid (∀ w : World, Calls Tryz.prog 73 #[] w fun e w' => e = .panicked gaveUp ∧ w' = w) := hgu
  clear hgu
  have hneN : ∀ t v (w : World), (binOp .neq 99 (.iface t v) .nilIface).run Tryz.prog w = .ok (.bool true) w := by
    intro t v w; simp [go_sem]
  have hP := pub16 s w hg hs
  cases hr : puS 16 65535 s.data.toList with
  | ok n =>
    rw [hr] at hP
    by_cases h4 : 4 < s.size
    · have hF : rgrp s.data.toList = none := by simp [rgrp]; intro h; omega
      rw [hF]
      clear hF hsl hr
      go_enter Tryz.func107, Tryz.ntmps107
      go_wp2_with fail
      refine hP.mono ?_
      rintro e w' ⟨x, v, rfl, ⟨rfl, rfl⟩, hb⟩
      go_wp2_with fail
      refine (HG.out _).mono ?_
      rintro e w2 ⟨rfl, rfl⟩
      go_wp2
      exact ⟨rfl, rfl, hb⟩
    · have hF : rgrp s.data.toList = some n := by simp [rgrp, hr]; omega
      rw [hF]
      clear hF hsl hr
      go_enter Tryz.func107, Tryz.ntmps107
      go_wp2_with fail
      refine hP.mono ?_
      rintro e w' ⟨x, v, rfl, ⟨rfl, rfl⟩, hb⟩
      go_wp2_with fail
      go_ret
      exact ⟨rfl, hb⟩
  | error k =>
    rw [hr] at hP
    have hF : rgrp s.data.toList = none := by simp [rgrp, hr]
    rw [hF]
    clear hF hsl hr
    go_enter Tryz.func107, Tryz.ntmps107
    go_wp2_with fail
    refine hP.mono ?_
    rintro e w' ⟨x, v, rfl, ⟨N, rfl⟩, hb⟩
    go_wp2_with fail
    refine (HG.out _).mono ?_
    rintro e w2 ⟨rfl, rfl⟩
    go_wp2
    exact ⟨rfl, rfl, hb⟩

/-- A number of at most so many digits, without noughts ahead. -/
def nread (l : List UInt8) (most : Nat) : Option Nat :=
  if l = [] ∨ most < l.length ∨ (l.head? = some 48 ∧ l ≠ [48]) then none else match puS 10 2147483647 l with | .ok n => some n | .error _ => none

def nrT (o : Option Nat) : Value := match o with | some n => .tuple #[.int .i64 n, .bool true] | none => .tuple #[.int .i64 0, .bool false]

theorem head_of (s : ByteArray) (h : 0 < s.size) : s.data.toList.head? = some s[0] := by
  obtain ⟨⟨l⟩⟩ := s
  cases l with
  | nil => simp [ByteArray.size] at h
  | cons a l => rfl

theorem read_any (s : ByteArray) (most : Nat) (w : World) (hg : Good w) (hs : s.size ≤ 281474976710656) (hm : most < 100) :
    Calls Tryz.prog 51 #[.string s, .int .i64 most] w fun e w' => e = .returned (nrT (nread s.data.toList most)) ∧ Below w.heap.size w w' := by
  have hsl := size_list s
  have hneN : ∀ t v (w : World), (binOp .neq 99 (.iface t v) .nilIface).run Tryz.prog w = .ok (.bool true) w := by
    intro t v w; simp [go_sem]
  have hP := pub10 s w hg hs
  by_cases h0 : s.size = 0
  · have := empty_of h0
    subst this
    have hF : nread (ByteArray.mk #[]).data.toList most = none := by simp [nread]
    rw [hF]
    clear hP hF hsl
    go_enter Tryz.func51, Tryz.ntmps51
    go_wp2_with fail
    go_ret2
    exact ⟨rfl, Below.refl _ _⟩
  · have hemp : s.toList.isEmpty = false := by
      rw [← decide_eq_emptyBytes]
      exact decide_eq_false (fun h => h0 (by rw [h]; rfl))
    by_cases hmo : most < s.size
    · have hF : nread s.data.toList most = none := by rw [nread, if_pos (.inr (.inl (by omega)))]
      rw [hF]
      clear hP hF hsl
      go_enter Tryz.func51, Tryz.ntmps51
      go_wp2_with fail
      go_ret2
      exact ⟨rfl, Below.refl _ _⟩
    · have hlt : 0 < s.size := by omega
      have hH := head_of s hlt
      have hne : s.data.toList ≠ [] := by intro h; rw [h] at hsl; simp at hsl; omega
      have hTl := ByteArray.toList_eq (bs := s)
      have HP : Hid (Calls Tryz.prog 62 #[.string s, .int .i64 10, .int .i64 31] w fun e w' => ∃ x v, e = .returned (.tuple #[.int .u64 x, v]) ∧ puOk (puS 10 2147483647 s.data.toList) x v ∧ Below w.heap.size w w') := hP
      have HF1 : Hid (s[0].toNat = 48 → s.data.toList ≠ [48] → nread s.data.toList most = none) := by
        intro h1 h2
        rw [nread, if_pos (.inr (.inr ⟨by rw [hH]; exact congrArg some (UInt8.toNat_inj.1 h1), h2⟩))]
      have HF2 : Hid ((s[0].toNat ≠ 48 ∨ s.data.toList = [48]) → nread s.data.toList most = match puS 10 2147483647 s.data.toList with | .ok n => some n | .error _ => none) := by
        intro h1
        rw [nread, if_neg]
        rintro (h | h | ⟨h, h'⟩)
        · exact hne h
        · omega
        · rcases h1 with h1 | h1
          · rw [hH] at h; injection h with h; rw [h] at h1; exact h1 rfl
          · exact h' h1
      have HT : Hid (s.toList = s.data.toList) := hTl
      clear hP hH hne hTl hsl
      go_enter Tryz.func51, Tryz.ntmps51
      go_wp2_with fail
      · rename_i h1 h2 h3
        have e1 : s.data.toList ≠ [48] := by rw [← HT.out]; simpa using h3
        rw [HF1.out (by omega) e1]
        go_ret2
        exact ⟨rfl, Below.refl _ _⟩
      · rename_i h1 h2 h3 _ _ _ _
        have hN : s[0].toNat ≠ 48 ∨ s.data.toList = [48] := .inr (by rw [← HT.out]; simpa using h3)
        have HN : Hid (nread s.data.toList most = match puS 10 2147483647 s.data.toList with | .ok n => some n | .error _ => none) := HF2.out hN
        clear hN HF1 HF2 HT
        refine HP.out.mono ?_
        rintro e w' ⟨x, v, rfl, hk, hb⟩
        cases hr : puS 10 2147483647 s.data.toList with
        | ok n =>
          have hle := puS_le hr
          rw [hr] at hk
          obtain ⟨rfl, rfl⟩ := hk
          rw [hr] at HN
          have hle' : (n : Int) ≤ 2147483647 := by omega
          clear hr HP
          go_wp2
          go_ret2
          exact ⟨by rw [HN.out]; rfl, hb⟩
        | error k =>
          rw [hr] at hk
          obtain ⟨N, rfl⟩ := hk
          rw [hr] at HN
          clear hr HP
          go_wp2
          go_ret2
          exact ⟨by rw [HN.out]; rfl, hb⟩
      · rename_i h1 h2 _ _ _ _
        have hN : s[0].toNat ≠ 48 ∨ s.data.toList = [48] := .inl (by omega)
        have HN : Hid (nread s.data.toList most = match puS 10 2147483647 s.data.toList with | .ok n => some n | .error _ => none) := HF2.out hN
        clear hN HF1 HF2 HT
        refine HP.out.mono ?_
        rintro e w' ⟨x, v, rfl, hk, hb⟩
        cases hr : puS 10 2147483647 s.data.toList with
        | ok n =>
          have hle := puS_le hr
          rw [hr] at hk
          obtain ⟨rfl, rfl⟩ := hk
          rw [hr] at HN
          have hle' : (n : Int) ≤ 2147483647 := by omega
          clear hr HP
          go_wp2
          go_ret2
          exact ⟨by rw [HN.out]; rfl, hb⟩
        | error k =>
          rw [hr] at hk
          obtain ⟨N, rfl⟩ := hk
          rw [hr] at HN
          clear hr HP
          go_wp2
          go_ret2
          exact ⟨by rw [HN.out]; rfl, hb⟩
end Go.Proofs.YtghbonlignmdoaaGreatDoor
