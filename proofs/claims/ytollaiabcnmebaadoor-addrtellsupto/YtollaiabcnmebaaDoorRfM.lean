/- Bits and digits, on lists alone, without Go: what bits tell, the first bits that are not the same, the next bits; and that the document's reading of a byte and of a group is the program's. -/
import Derived.Test.YtollaiabcnmebaaDoorRfB
set_option linter.unusedVariables false
set_option linter.unusedSimpArgs false
namespace Go.Proofs.YtollaiabcnmebaaDoor

theorem bitd (n : Nat) : bitv (hexd (n % 2)) = n % 2 ∧ (hexd (n % 2) = 48 ∨ hexd (n % 2) = 49) := by
  have : n % 2 = 0 ∨ n % 2 = 1 := by omega
  rcases this with h | h <;> rw [h] <;> decide
theorem bin_isBin : ∀ (k n : Nat), IsBin (bin k n)
  | 0, n => by intro c hc; simp [bin] at hc
  | k + 1, n => by
    intro c hc
    rw [bin, List.mem_append] at hc
    rcases hc with hc | hc
    · exact bin_isBin k _ c hc
    · simp at hc; subst hc; exact (bitd n).2
theorem vbin_bin : ∀ (k n acc : Nat), vbin acc (bin k n) = acc * 2 ^ k + n % 2 ^ k
  | 0, n, acc => by simp [bin, vbin, Nat.mod_one]
  | k + 1, n, acc => by
    rw [bin, vbin_append, vbin_bin k, vbin, vbin, (bitd n).1, Nat.pow_succ]
    have h : n % (2 ^ k * 2) = n / 2 % 2 ^ k * 2 + n % 2 := by
      rw [Nat.mul_comm (2 ^ k) 2, Nat.mod_mul]; omega
    rw [h, Nat.add_mul, Nat.mul_assoc]; omega
theorem bin_split (i : Nat) : ∀ (j n : Nat), bin (i + j) n = bin i (n / 2 ^ j) ++ bin j n
  | 0, n => by simp [bin]
  | j + 1, n => by
    rw [← Nat.add_assoc, bin, bin_split i j, bin, List.append_assoc, Nat.div_div_eq_div_mul, Nat.pow_succ, Nat.mul_comm 2]
theorem bin_sub (i j k n : Nat) : ((bin (i + j + k) n).drop i).take j = bin j (n / 2 ^ k) := by
  rw [bin_split (i + j) k, bin_split i j, List.append_assoc, List.drop_left' (bin_length _ _), List.take_left' (bin_length _ _)]
theorem vbin_add : ∀ (l : List UInt8) (acc : Nat), vbin acc l = acc * 2 ^ l.length + vbin 0 l
  | [], acc => by simp [vbin]
  | c :: l, acc => by
    rw [vbin, vbin, vbin_add l, vbin_add l (0 * 2 + bitv c), List.length_cons, Nat.pow_succ, Nat.add_mul, Nat.mul_assoc, Nat.mul_comm 2]
    simp; omega
theorem vbin_lt0 (l : List UInt8) : vbin 0 l < 2 ^ l.length := by
  induction l with
  | nil => simp [vbin]
  | cons c l ih =>
    rw [vbin, vbin_add, List.length_cons, Nat.pow_succ]
    have : bitv c ≤ 1 := by unfold bitv; split <;> omega
    have : (0 * 2 + bitv c) * 2 ^ l.length ≤ 1 * 2 ^ l.length := Nat.mul_le_mul_right _ (by omega)
    omega

/-- The first bits that are not the same decide. -/
def lessL : List UInt8 → List UInt8 → Bool
  | a :: l, b :: r => if a = b then lessL l r else decide (a < b)
  | _, _ => false
theorem lessL_num : ∀ (l r : List UInt8), IsBin l → IsBin r → l.length = r.length → lessL l r = decide (vbin 0 l < vbin 0 r)
  | [], [], _, _, _ => by simp [lessL, vbin]
  | [], b :: r, _, _, h => by simp at h
  | a :: l, [], _, _, h => by simp at h
  | a :: l, b :: r, hl, hr, h => by
    have ih := lessL_num l r (fun c hc => hl c (List.mem_cons_of_mem _ hc)) (fun c hc => hr c (List.mem_cons_of_mem _ hc)) (by simpa using h)
    have h' : l.length = r.length := by simpa using h
    have x1 := vbin_lt0 l
    have x2 := vbin_lt0 r
    rw [lessL, vbin, vbin, vbin_add l, vbin_add r, h', ih]
    rw [h'] at x1
    rcases hl a (by simp) with rfl | rfl <;> rcases hr b (by simp) with rfl | rfl
    · simp
    · simp only [bitv]; simp; omega
    · simp only [bitv]; simp; omega
    · simp

/-- The next bits: from the end, ones come to be noughts till a nought comes to be a one. -/
def nextR : List UInt8 → Option (List UInt8)
  | [] => none
  | c :: l => if c = 48 then some (49 :: l) else (nextR l).map (48 :: ·)
def vrev : List UInt8 → Nat
  | [] => 0
  | c :: l => bitv c + 2 * vrev l
theorem vrev_vbin (l : List UInt8) : vrev l.reverse = vbin 0 l := by
  suffices ∀ l : List UInt8, vrev l = vbin 0 l.reverse by rw [this, List.reverse_reverse]
  intro l
  induction l with
  | nil => rfl
  | cons c l ih => rw [vrev, List.reverse_cons, vbin_append, vbin, vbin, ih]; omega
theorem nextR_some : ∀ (l r : List UInt8), IsBin l → nextR l = some r → vrev r = vrev l + 1 ∧ r.length = l.length ∧ IsBin r
  | [], r, _, h => by simp [nextR] at h
  | c :: l, r, hb, h => by
    have hb' : IsBin l := fun c hc => hb c (List.mem_cons_of_mem _ hc)
    rw [nextR] at h
    split at h
    · rename_i hc; subst hc; injection h with h; subst h
      refine ⟨by simp [vrev, bitv]; omega, by simp, ?_⟩
      intro c hc
      rcases List.mem_cons.1 hc with rfl | hc
      · exact .inr rfl
      · exact hb' c hc
    · rename_i hc
      have hc : c = 49 := by rcases hb c (by simp) with h | h; exact absurd h hc; exact h
      subst hc
      obtain ⟨r', hr', rfl⟩ := Option.map_eq_some_iff.1 h
      obtain ⟨a, b, d⟩ := nextR_some l r' hb' hr'
      refine ⟨by simp [vrev, bitv, a]; omega, by simp [b], ?_⟩
      intro c hc
      rcases List.mem_cons.1 hc with rfl | hc
      · exact .inl rfl
      · exact d c hc
theorem nextR_none : ∀ (l : List UInt8), IsBin l → nextR l = none → vrev l + 1 = 2 ^ l.length
  | [], _, _ => rfl
  | c :: l, hb, h => by
    rw [nextR] at h
    split at h
    · cases h
    · rename_i hc
      have hc : c = 49 := by rcases hb c (by simp) with h | h; exact absurd h hc; exact h
      subst hc
      have := nextR_none l (fun c hc => hb c (List.mem_cons_of_mem _ hc)) (by simpa using h)
      rw [List.length_cons, Nat.pow_succ, vrev]; simp [bitv]; omega
theorem hexd10 (k : Nat) (h : k < 10) : hexd k = UInt8.ofNat (48 + k) := by rw [hexd, if_pos h]
theorem digs10 (n : Nat) (h : n < 1000) : digs 10 n = dec3 n := by
  unfold dec3
  rw [digs_eq]
  split
  · rename_i h1
    have h1 : n < 10 := by omega
    rw [if_pos h1, Nat.mod_eq_of_lt h1, hexd10 n h1]
  · rename_i h1
    have h1 : ¬ n < 10 := by omega
    rw [if_neg h1, digs_eq]
    split
    · rename_i h2
      have h2 : n / 10 < 10 := by omega
      rw [if_pos (by omega), Nat.mod_eq_of_lt h2, hexd10 _ h2, hexd10 _ (by omega)]; rfl
    · rename_i h2
      have h2 : ¬ n / 10 < 10 := by omega
      have h3 : n / 10 / 10 < 10 := by omega
      rw [if_neg (by omega), digs_eq, dif_pos (by omega), Nat.mod_eq_of_lt h3, hexd10 _ h3, hexd10 _ (by omega), hexd10 _ (by omega)]; rfl
theorem digs16 (n : Nat) (h : n < 65536) : digs 16 n = hexs n := by
  unfold hexs
  rw [digs_eq]
  split
  · rename_i h1
    have h1 : n < 16 := by omega
    rw [if_pos h1, Nat.mod_eq_of_lt h1]
  · rename_i h1
    have h1 : ¬ n < 16 := by omega
    rw [if_neg h1, digs_eq]
    split
    · rename_i h2
      have h2 : n / 16 < 16 := by omega
      rw [if_pos (by omega), Nat.mod_eq_of_lt h2]; rfl
    · rename_i h2
      have h2 : ¬ n / 16 < 16 := by omega
      rw [if_neg (by omega), digs_eq]
      split
      · rename_i h3
        have h3 : n / 16 / 16 < 16 := by omega
        rw [if_pos (by omega), Nat.mod_eq_of_lt h3]; rfl
      · rename_i h3
        have h4 : n / 16 / 16 / 16 < 16 := by omega
        rw [if_neg (by omega), digs_eq, dif_pos (by omega), Nat.mod_eq_of_lt h4]; rfl

/-- The number of a word of decimal digits, as the document reads it: none where a sign is no digit, or where it is past 255 and a sign follows. -/
def rdec (acc : Nat) : List UInt8 → Option Nat
  | [] => some acc
  | c :: r => if 48 ≤ c.toNat ∧ c.toNat ≤ 57 ∧ acc ≤ 255 then rdec (10 * acc + c.toNat - 48) r else none
/-- A byte of a text, as the document reads it. -/
def docB (l : List UInt8) : Option Nat := match rdec 0 l with | some n => if l ≠ [] ∧ n ≤ 255 ∧ digs 10 n = l then some n else none | none => none
/-- A byte, by the program. -/
def myB (l : List UInt8) : Option Nat := match nread l 3 with | some n => if 255 < n then none else some n | none => none

theorem dec3_len : ∀ n : Fin 256, (dec3 n.val).length ≤ 3 := by decide +kernel
theorem dig_dec (c : UInt8) (h : dig c < 10) : 48 ≤ c.toNat ∧ c.toNat ≤ 57 ∧ dig c = c.toNat - 48 := by
  unfold dig at h ⊢
  split at h
  · rename_i h1; rw [if_pos h1]; exact ⟨h1.1, h1.2, rfl⟩
  · split at h <;> omega
theorem rdec_of (l : List UInt8) : ∀ (acc n : Nat), pu 10 2147483647 acc l = .ok n → n ≤ 255 → rdec acc l = some n ∧ acc ≤ n := by
  induction l with
  | nil => intro acc n h _; simp [pu] at h; subst h; exact ⟨rfl, Nat.le_refl _⟩
  | cons c r ih =>
    intro acc n h hn
    rw [pu] at h
    split at h
    · cases h
    · rename_i h1
      split at h
      · cases h
      · obtain ⟨a, b, e⟩ := dig_dec c (by omega)
        obtain ⟨i1, i2⟩ := ih _ n h hn
        rw [e] at i1 i2
        have : acc * 10 + (c.toNat - 48) = 10 * acc + c.toNat - 48 := by omega
        rw [this] at i1
        rw [rdec, if_pos ⟨a, b, by omega⟩]
        exact ⟨i1, by omega⟩
theorem u8_of (c : UInt8) (k : Nat) (h : 48 ≤ c.toNat) (e : k = c.toNat - 48) : UInt8.ofNat (48 + k) = c := by
  subst e
  rw [show 48 + (c.toNat - 48) = c.toNat by omega]
  exact UInt8.ofNat_toNat
theorem u8_ne {c d : UInt8} (h : c ≠ d) : c.toNat ≠ d.toNat := fun e => h (UInt8.toNat_inj.1 e)
theorem rdec_digs (l : List UInt8) (n : Nat) (h : rdec 0 l = some n) (h0 : l ≠ []) (h3 : l.length ≤ 3) (hz : ¬ (l.head? = some 48 ∧ l ≠ [48])) : dec3 n = l := by
  match l, h0, h3, hz, h with
  | [a], _, _, hz, h =>
    simp only [rdec] at h
    split at h
    · rename_i c1
      injection h with h
      have e : n = a.toNat - 48 := by omega
      rw [dec3, if_pos (by omega), u8_of a n c1.1 e]
    · cases h
  | [a, b], _, _, hz, h =>
    simp only [rdec] at h
    split at h
    · rename_i c1
      split at h
      · rename_i c2
        injection h with h
        have ha : a ≠ 48 := fun e => hz (by simp [e])
        have ha' := u8_ne ha
        have ha2 : (48 : UInt8).toNat = 48 := rfl
        have e1 : n / 10 = a.toNat - 48 := by omega
        have e2 : n % 10 = b.toNat - 48 := by omega
        rw [dec3, if_neg (by omega), if_pos (by omega), u8_of a _ c1.1 e1, u8_of b _ c2.1 e2]
      · cases h
    · cases h
  | [a, b, c], _, _, hz, h =>
    simp only [rdec] at h
    split at h
    · rename_i c1
      split at h
      · rename_i c2
        split at h
        · rename_i c3
          injection h with h
          have ha : a ≠ 48 := fun e => hz (by simp [e])
          have ha' := u8_ne ha
          have ha2 : (48 : UInt8).toNat = 48 := rfl
          have e1 : n / 10 / 10 = a.toNat - 48 := by omega
          have e2 : n / 10 % 10 = b.toNat - 48 := by omega
          have e3 : n % 10 = c.toNat - 48 := by omega
          rw [dec3, if_neg (by omega), if_neg (by omega), u8_of a _ c1.1 e1, u8_of b _ c2.1 e2, u8_of c _ c3.1 e3]
        · cases h
      · cases h
    · cases h
  | a :: b :: c :: d :: r, _, h3, _, _ => simp at h3
theorem docB_eq (l : List UInt8) : docB l = myB l := by
  cases hd : docB l with
  | some n =>
    unfold docB at hd
    split at hd
    · split at hd
      · rename_i m hm hc
        injection hd with hd; subst hd
        obtain ⟨h0, h1, h2⟩ := hc
        rw [digs10 m (by omega)] at h2
        rw [myB, ← h2, dec3_nread ⟨m, by omega⟩]
        simp; omega
      · cases hd
    · cases hd
  | none =>
    cases hm : myB l with
    | none => rfl
    | some n =>
      exfalso
      unfold myB at hm
      split at hm
      · rename_i m hr
        split at hm
        · cases hm
        · rename_i hn
          injection hm with hm; subst hm
          unfold nread at hr
          split at hr
          · cases hr
          · rename_i hc
            have h0 : l ≠ [] := fun e => hc (.inl e)
            split at hr
            · rename_i k hk
              injection hr with hr; subst hr
              rw [puS, if_neg h0] at hk
              obtain ⟨i1, _⟩ := rdec_of l 0 _ hk (by omega)
              have h4 := rdec_digs l _ i1 h0 (by have := fun e => hc (.inr (.inl e)); omega) (fun e => hc (.inr (.inr e)))
              rw [← digs10 _ (by omega)] at h4
              simp [docB, i1, h0, h4] at hd
              omega
            · cases hr
      · cases hm
/-- Sixteen bits of a text, as the document reads them. -/
def rhex (acc : Nat) : List UInt8 → Option Nat
  | [] => some acc
  | c :: r => if 48 ≤ c.toNat ∧ c.toNat ≤ 57 then rhex (16 * acc + c.toNat - 48) r else if 97 ≤ c.toNat ∧ c.toNat ≤ 102 then rhex (16 * acc + c.toNat - 97 + 10) r else if 65 ≤ c.toNat ∧ c.toNat ≤ 70 then rhex (16 * acc + c.toNat - 65 + 10) r else none
def docG (l : List UInt8) : Option Nat := if 1 ≤ l.length ∧ l.length ≤ 4 then rhex 0 l else none
theorem dig_hex : ∀ c : Fin 256, dig (UInt8.ofNat c.val) = (if 48 ≤ c.val ∧ c.val ≤ 57 then c.val - 48 else if 97 ≤ c.val ∧ c.val ≤ 102 then c.val - 87 else if 65 ≤ c.val ∧ c.val ≤ 70 then c.val - 55 else if 16 ≤ dig (UInt8.ofNat c.val) then dig (UInt8.ofNat c.val) else 1000) := by decide +kernel
theorem dig_hex' (c : UInt8) : dig c = (if 48 ≤ c.toNat ∧ c.toNat ≤ 57 then c.toNat - 48 else if 97 ≤ c.toNat ∧ c.toNat ≤ 102 then c.toNat - 87 else if 65 ≤ c.toNat ∧ c.toNat ≤ 70 then c.toNat - 55 else if 16 ≤ dig c then dig c else 1000) := by
  have := dig_hex ⟨c.toNat, c.toNat_lt⟩
  simpa only [UInt8.ofNat_toNat] using this
theorem rhex_pu : ∀ (l : List UInt8) (acc k : Nat), l.length + k ≤ 4 → acc < 16 ^ k → rhex acc l = match pu 16 65535 acc l with | .ok n => some n | .error _ => none
  | [], acc, k, _, _ => by simp [rhex, pu]
  | c :: r, acc, k, hk, ha => by
    have h16 : 16 ^ (k + 1) ≤ 16 ^ 4 := Nat.pow_le_pow_right (by decide) (by simp at hk; omega)
    have hs : 16 ^ (k + 1) = 16 ^ k * 16 := Nat.pow_succ ..
    have hd := dig_hex' c
    have ih := fun a h => rhex_pu r a (k + 1) (by simp at hk ⊢; omega) h
    rw [rhex, pu]
    split
    · rename_i h1
      rw [if_pos h1] at hd
      rw [if_neg (by omega), if_neg (by omega), ← ih _ (by omega), hd]
      congr 1; omega
    · rename_i h1
      rw [if_neg h1] at hd
      split
      · rename_i h2
        rw [if_pos h2] at hd
        rw [if_neg (by omega), if_neg (by omega), ← ih _ (by omega), hd]
        congr 1; omega
      · rename_i h2
        rw [if_neg h2] at hd
        split
        · rename_i h3
          rw [if_pos h3] at hd
          rw [if_neg (by omega), if_neg (by omega), ← ih _ (by omega), hd]
          congr 1; omega
        · rename_i h3
          rw [if_neg h3] at hd
          rw [if_pos (by split at hd <;> omega)]
theorem docG_eq (l : List UInt8) : docG l = rgrp l := by
  unfold docG rgrp puS
  by_cases h4 : 4 < l.length
  · rw [if_neg (by omega), if_pos h4]
  · rw [if_neg h4]
    cases l with
    | nil => simp
    | cons a r => rw [if_pos (by simp at h4 ⊢; omega), if_neg (by simp), rhex_pu (a :: r) 0 0 (by simp at h4 ⊢; omega) (by decide)]; cases pu 16 65535 0 (a :: r) <;> rfl
end Go.Proofs.YtollaiabcnmebaaDoor
