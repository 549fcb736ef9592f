/- The document's answer: what it reads of words, on lists alone, without Go. -/
import Derived.Test.YtollaiabcnmebaaDoorRfG
set_option linter.unusedVariables false
set_option linter.unusedSimpArgs false
namespace Go.Proofs.YtollaiabcnmebaaDoor

theorem nread_len (l : List UInt8) (m n : Nat) (h : nread l m = some n) : l.length ≤ m := by
  unfold nread at h
  split at h
  · cases h
  · rename_i hc
    have := fun e => hc (.inr (.inl e))
    omega
theorem rgrp_len (l : List UInt8) (n : Nat) (h : rgrp l = some n) : l.length ≤ 4 := by
  unfold rgrp at h
  split at h
  · cases h
  · omega
theorem rhex_dot : ∀ (l : List UInt8) (acc : Nat), (46 : UInt8) ∈ l → rhex acc l = none
  | [], _, h => by simp at h
  | c :: r, acc, h => by
    rcases List.mem_cons.1 h with rfl | h
    · rw [rhex]; simp
    · rw [rhex, rhex_dot r _ h, rhex_dot r _ h, rhex_dot r _ h]; simp
theorem rgrp_dot (l : List UInt8) (h : (46 : UInt8) ∈ l) : rgrp l = none := by
  rw [← docG_eq, docG, rhex_dot l 0 h]; simp

theorem bin_mod : ∀ (k n : Nat), bin k (n % 2 ^ k) = bin k n
  | 0, n => rfl
  | k + 1, n => by
    have h1 : n % 2 ^ (k + 1) / 2 = n / 2 % 2 ^ k := by rw [Nat.pow_succ, Nat.mul_comm, Nat.mod_mul_right_div_self]
    have h2 : n % 2 ^ (k + 1) % 2 = n % 2 := Nat.mod_mod_of_dvd n (by rw [Nat.pow_succ]; exact Nat.dvd_mul_left 2 _)
    rw [bin, bin, h1, h2, bin_mod k]
theorem bin_more (i acc n : Nat) (h : n < 256) : bin (i + 8) (acc * 256 + n) = bin i acc ++ bin 8 n := by
  rw [bin_split i 8, ← bin_mod 8 (acc * 256 + n)]
  rw [show (acc * 256 + n) / 2 ^ 8 = acc by omega, show (acc * 256 + n) % 2 ^ 8 = n by omega]
theorem fourAcc_my (acc : Nat) (w : List UInt8) (r : List (List UInt8)) : fourAcc acc (w :: r) = match myB w with | some n => fourAcc (acc * 256 + n) r | none => none := by
  rw [fourAcc, myB]
  cases nread w 3 with
  | none => rfl
  | some n => simp only []; by_cases h : 255 < n <;> simp [h]
theorem myB_lt {w : List UInt8} {n : Nat} (h : myB w = some n) : n < 256 := by
  unfold myB at h
  split at h
  · split at h
    · cases h
    · injection h with h; omega
  · cases h

/-- The bits of groups. -/
def gbits (gs : List Nat) : List UInt8 := gs.flatMap (bin 16)
theorem gbits_cons (g : Nat) (r : List Nat) : gbits (g :: r) = bin 16 g ++ gbits r := rfl
theorem gbits_append (a b : List Nat) : gbits (a ++ b) = gbits a ++ gbits b := by simp [gbits]
theorem gbits_length (gs : List Nat) : (gbits gs).length = 16 * gs.length := by
  induction gs with
  | nil => rfl
  | cons g r ih => rw [gbits_cons, List.length_append, bin_length, ih, List.length_cons]; omega
theorem gbits_four (n : Nat) : gbits [n / 65536, n % 65536] = bin 32 n := by
  rw [show (32 : Nat) = 16 + 16 from rfl, bin_split 16 16, ← bin_mod 16 n]
  simp [gbits]

theorem rgs_last (e : Bool) (x : List UInt8) : rgs e [x] = match rgrp x with | some g => some [g] | none => if e = true then (rfour x).map (fun n => [n / 65536, n % 65536]) else none := by
  rw [rgs]
  by_cases hd : (46 : UInt8) ∈ x
  · rw [rgrp_dot x hd]
    cases e <;> simp [hd]
  · have hf : rfour x = none := by rw [rfour, spl_none 46 x hd]; rfl
    rw [hf, if_neg (fun h => hd h.2)]
    cases rgrp x <;> simp

theorem spl_sum (c : UInt8) : ∀ l : List UInt8, ((spl c l).map List.length).sum + (spl c l).length = l.length + 1
  | [] => by simp [spl]
  | b :: l => by
    have ih := spl_sum c l
    rw [spl]
    split
    · simp; omega
    · split
      · rename_i h; exact absurd h (spl_ne c l)
      · rename_i h; rw [h] at ih; simp at ih ⊢; omega
theorem fourAcc_len : ∀ (l : List (List UInt8)) (acc n : Nat), fourAcc acc l = some n → (l.map List.length).sum ≤ 3 * l.length
  | [], _, _, _ => by simp
  | w :: r, acc, n, h => by
    rw [fourAcc_my] at h
    split at h
    · rename_i k hk
      have := fourAcc_len r _ n h
      have h3 : w.length ≤ 3 := by
        unfold myB at hk
        split at hk
        · rename_i m hm; exact nread_len w 3 m hm
        · cases hk
      simp; omega
    · cases h
theorem rfour_len (l : List UInt8) (n : Nat) (h : rfour l = some n) : l.length ≤ 15 := by
  unfold rfour at h
  split at h
  · rename_i h4
    have h1 := fourAcc_len _ _ _ h
    have h2 := spl_sum 46 l
    omega
  · cases h
theorem rgs_len (e : Bool) : ∀ (ws : List (List UInt8)) (gs : List Nat), rgs e ws = some gs → (ws.map List.length).sum + ws.length ≤ 5 * gs.length + (if e then 6 else 0)
  | [], gs, h => by simp [rgs] at h
  | [x], gs, h => by
    rw [rgs_last] at h
    split at h
    · rename_i g hg
      injection h with h; subst h
      have := rgrp_len x g hg
      simp; omega
    · split at h
      · rename_i he
        obtain ⟨n, hn, rfl⟩ := Option.map_eq_some_iff.1 h
        have := rfour_len x n hn
        rw [if_pos he]; simp; omega
      · cases h
  | x :: y :: r, gs, h => by
    rw [rgs] at h
    obtain ⟨g, hg, h⟩ := Option.bind_eq_some_iff.1 h
    obtain ⟨gs', hg', rfl⟩ := Option.map_eq_some_iff.1 h
    have h1 := rgrp_len x g hg
    have h2 := rgs_len e (y :: r) gs' hg'
    simp at h2 ⊢; omega
theorem rgroups_len (e : Bool) (l : List UInt8) (gs : List Nat) (h : rgroups e l = some gs) : l.length ≤ 5 * gs.length + (if e then 5 else 0) := by
  unfold rgroups at h
  split at h
  · rename_i h0; subst h0; simp
  · have h1 := rgs_len e _ gs h
    have h2 := spl_sum 58 l
    split at h1 <;> rename_i he
    · rw [if_pos he]; omega
    · rw [if_neg he]; omega
end Go.Proofs.YtollaiabcnmebaaDoor
