/- The document's longest row of noughts is the program's; and how the text of groups grows: on lists alone, without Go. -/
import Derived.Test.YtollaiabcnmebaaDoorRfQ
set_option linter.unusedVariables false
set_option linter.unusedSimpArgs false
namespace Go.Proofs.YtollaiabcnmebaaDoor

/-- How many noughts a list begins with. -/
def zr : List Nat → Nat
  | [] => 0
  | g :: r => if g = 0 then zr r + 1 else 0
theorem zr_le : ∀ l : List Nat, zr l ≤ l.length
  | [] => Nat.le_refl _
  | g :: r => by have := zr_le r; rw [zr]; split <;> simp <;> omega
/-- The document's row, from place to place: where it begins (-1: nowhere), and how long it is. -/
def drow (gs : List Nat) : Nat → Int × Int
  | 0 => (-1, 1)
  | k + 1 => if (drow gs k).2 < (zr (gs.drop k) : Int) then ((k : Int), (zr (gs.drop k) : Int)) else drow gs k

def z01 (g : Nat) : Nat := if g = 0 then 0 else 1
theorem zr_map : ∀ l : List Nat, zr (l.map z01) = zr l
  | [] => rfl
  | g :: r => by
    rw [List.map_cons, zr, zr, zr_map r]
    by_cases h : g = 0
    · simp [h, z01]
    · simp [h, z01]
theorem drow_map (gs : List Nat) : ∀ k, drow (gs.map z01) k = drow gs k
  | 0 => rfl
  | k + 1 => by rw [drow, drow, drow_map gs k, ← List.map_drop, zr_map]
theorem lrowGo_map : ∀ (l : List Nat) (i f t s : Nat), lrowGo (l.map z01) i f t s = lrowGo l i f t s
  | [], _, _, _, _ => rfl
  | g :: r, i, f, t, s => by
    rw [List.map_cons, lrowGo, lrowGo, lrowGo_map r, lrowGo_map r, lrowGo_map r]
    by_cases h : g = 0
    · simp [h, z01]
    · simp [h, z01]
theorem lrow_map (gs : List Nat) : lrow (gs.map z01) = lrow gs := lrowGo_map gs 0 0 0 0
def bn (b : Bool) : Nat := if b then 1 else 0
theorem rows_all : ∀ b0 b1 b2 b3 b4 b5 b6 b7 : Bool,
    (lrow [bn b0, bn b1, bn b2, bn b3, bn b4, bn b5, bn b6, bn b7]).1 ≤ (lrow [bn b0, bn b1, bn b2, bn b3, bn b4, bn b5, bn b6, bn b7]).2 ∧ (lrow [bn b0, bn b1, bn b2, bn b3, bn b4, bn b5, bn b6, bn b7]).2 ≤ 8 ∧
    drow [bn b0, bn b1, bn b2, bn b3, bn b4, bn b5, bn b6, bn b7] 8 = (if (lrow [bn b0, bn b1, bn b2, bn b3, bn b4, bn b5, bn b6, bn b7]).2 - (lrow [bn b0, bn b1, bn b2, bn b3, bn b4, bn b5, bn b6, bn b7]).1 < 2 then (-1, 1)
      else (((lrow [bn b0, bn b1, bn b2, bn b3, bn b4, bn b5, bn b6, bn b7]).1 : Int), (((lrow [bn b0, bn b1, bn b2, bn b3, bn b4, bn b5, bn b6, bn b7]).2 - (lrow [bn b0, bn b1, bn b2, bn b3, bn b4, bn b5, bn b6, bn b7]).1 : Nat) : Int))) := by decide +kernel
theorem z01_bn (g : Nat) : z01 g = bn (decide (g ≠ 0)) := by
  by_cases h : g = 0 <;> simp [z01, bn, h]
theorem rows_same (gs : List Nat) (h : gs.length = 8) : (lrow gs).1 ≤ (lrow gs).2 ∧ (lrow gs).2 ≤ 8 ∧
    drow gs 8 = (if (lrow gs).2 - (lrow gs).1 < 2 then (-1, 1) else (((lrow gs).1 : Int), (((lrow gs).2 - (lrow gs).1 : Nat) : Int))) := by
  match gs, h with
  | [a, b, c, d, e, f, g, i], _ =>
    have := rows_all (decide (a ≠ 0)) (decide (b ≠ 0)) (decide (c ≠ 0)) (decide (d ≠ 0)) (decide (e ≠ 0)) (decide (f ≠ 0)) (decide (g ≠ 0)) (decide (i ≠ 0))
    rw [← z01_bn, ← z01_bn, ← z01_bn, ← z01_bn, ← z01_bn, ← z01_bn, ← z01_bn, ← z01_bn] at this
    have hm : [z01 a, z01 b, z01 c, z01 d, z01 e, z01 f, z01 g, z01 i] = [a, b, c, d, e, f, g, i].map z01 := rfl
    rw [hm, lrow_map, drow_map] at this
    exact this

theorem hexd_no58 (k : Nat) (h : k < 16) : hexd k ≠ 58 := by
  have : k = 0 ∨ k = 1 ∨ k = 2 ∨ k = 3 ∨ k = 4 ∨ k = 5 ∨ k = 6 ∨ k = 7 ∨ k = 8 ∨ k = 9 ∨ k = 10 ∨ k = 11 ∨ k = 12 ∨ k = 13 ∨ k = 14 ∨ k = 15 := by omega
  rcases this with rfl | rfl | rfl | rfl | rfl | rfl | rfl | rfl | rfl | rfl | rfl | rfl | rfl | rfl | rfl | rfl <;> decide
theorem hexs_end (g : Nat) (h : g < 65536) : ∃ (a : List UInt8) (c : UInt8), hexs g = a ++ [c] ∧ c ≠ 58 := by
  unfold hexs
  split
  · exact ⟨[], _, rfl, hexd_no58 _ (by omega)⟩
  · split
    · exact ⟨[_], _, rfl, hexd_no58 _ (by omega)⟩
    · split
      · exact ⟨[_, _], _, rfl, hexd_no58 _ (by omega)⟩
      · exact ⟨[_, _, _], _, rfl, hexd_no58 _ (by omega)⟩
theorem ptext_snoc (q : List Nat) (g : Nat) (h : q ≠ []) : ptext (q ++ [g]) = ptext q ++ [58] ++ hexs g := by
  unfold ptext
  induction q with
  | nil => exact absurd rfl h
  | cons a r ih =>
    cases r with
    | nil => simp [Lib.join, List.intercalate]
    | cons b r =>
      have := ih (by simp)
      simp only [List.cons_append, List.map_cons] at this ⊢
      rw [join_more, join_more, this]
      simp
theorem ptext_one (g : Nat) : ptext [g] = hexs g := by simp [ptext, Lib.join, List.intercalate]
theorem ptext_end (q : List Nat) (hq : q ≠ []) (h : ∀ x ∈ q, x < 65536) : ∃ (a : List UInt8) (c : UInt8), ptext q = a ++ [c] ∧ c ≠ 58 := by
  obtain ⟨r, g, rfl⟩ : ∃ r g, q = r ++ [g] := ⟨q.dropLast, q.getLast hq, (List.dropLast_concat_getLast hq).symm⟩
  obtain ⟨a, c, e, hc⟩ := hexs_end g (h g (by simp))
  by_cases hr : r = []
  · subst hr; rw [List.nil_append, ptext_one]; exact ⟨a, c, e, hc⟩
  · rw [ptext_snoc r g hr, e]; exact ⟨ptext r ++ [58] ++ a, c, by simp, hc⟩
theorem getD_get (l : List Nat) (i : Nat) (h : i < l.length) : l.getD i 0 = l[i] := by simp [List.getD, List.getElem?_eq_getElem h]

/-- What is printed ahead of a place: what stands ahead of two colons, and the groups behind that. -/
def Ph (gs : List Nat) (i : Nat) (pre : List UInt8) (q : List Nat) : Prop :=
  (pre = [] ∧ q = gs.take i ∧ ((lrow gs).2 - (lrow gs).1 < 2 ∨ i ≤ (lrow gs).1)) ∨
  (¬ (lrow gs).2 - (lrow gs).1 < 2 ∧ pre = ptext (gs.take (lrow gs).1) ++ [58, 58] ∧ (lrow gs).2 ≤ i ∧ q = (gs.drop (lrow gs).2).take (i - (lrow gs).2))
theorem Ph_step {gs : List Nat} {i : Nat} {pre : List UInt8} {q : List Nat} {a m : Int} (h8 : gs.length = 8) (hd : drow gs 8 = (a, m)) (h : Ph gs i pre q) (hi : i < 8) (hne : ¬ (i : Int) = a) :
    Ph gs (i + 1) pre (q ++ [gs.getD i 0]) := by
  obtain ⟨r1, r2, r3⟩ := rows_same gs h8
  rw [hd] at r3
  rw [getD_get _ _ (by omega)]
  rcases h with ⟨h1, h2, h3⟩ | ⟨h1, h2, h3, h4⟩
  · refine .inl ⟨h1, by rw [h2, List.take_succ_eq_append_getElem (by omega)], ?_⟩
    rcases h3 with h3 | h3
    · exact .inl h3
    · by_cases hl : (lrow gs).2 - (lrow gs).1 < 2
      · exact .inl hl
      · rw [if_neg hl] at r3
        injection r3 with r3 r4
        right; omega
  · refine .inr ⟨h1, h2, by omega, ?_⟩
    rw [h4, show i + 1 - (lrow gs).2 = (i - (lrow gs).2) + 1 by omega, List.take_succ_eq_append_getElem (by rw [List.length_drop]; omega), List.getElem_drop]
    congr 3; omega
theorem Ph_jump {gs : List Nat} {i : Nat} {pre : List UInt8} {q : List Nat} {a m : Int} (h8 : gs.length = 8) (hd : drow gs 8 = (a, m)) (h : Ph gs i pre q) (hi : i < 8) (he : (i : Int) = a) :
    2 ≤ m ∧ (i : Int) + m ≤ 8 ∧ Ph gs (i + m.toNat) (pre ++ ptext q ++ [58, 58]) [] := by
  obtain ⟨r1, r2, r3⟩ := rows_same gs h8
  rw [hd] at r3
  by_cases hl : (lrow gs).2 - (lrow gs).1 < 2
  · rw [if_pos hl] at r3
    injection r3 with r3 r4
    omega
  · rw [if_neg hl] at r3
    injection r3 with r3 r4
    have hif : i = (lrow gs).1 := by omega
    refine ⟨by omega, by omega, .inr ⟨hl, ?_, by omega, ?_⟩⟩
    · rcases h with ⟨h1, h2, h3⟩ | ⟨h1, h2, h3, h4⟩
      · rw [h1, h2, hif]; rfl
      · omega
    · rw [show i + m.toNat - (lrow gs).2 = 0 by omega]; rfl
theorem Ph_end {gs : List Nat} {pre : List UInt8} {q : List Nat} (h8 : gs.length = 8) (h : Ph gs 8 pre q) : pre ++ ptext q = psix gs := by
  obtain ⟨r1, r2, _⟩ := rows_same gs h8
  unfold psix
  rcases h with ⟨h1, h2, h3⟩ | ⟨h1, h2, h3, h4⟩
  · rw [h1, h2, List.take_of_length_le (by omega), if_pos (by omega)]; rfl
  · have e : (gs.drop (lrow gs).2).take (8 - (lrow gs).2) = gs.drop (lrow gs).2 := List.take_of_length_le (by rw [List.length_drop]; omega)
    rw [if_neg h1, h2, h4, e]
theorem Ph_pre {gs : List Nat} {i : Nat} {pre : List UInt8} {q : List Nat} (h : Ph gs i pre q) : pre = [] ∨ ∃ r, pre = r ++ [58] := by
  rcases h with ⟨h1, _⟩ | ⟨_, h2, _⟩
  · exact .inl h1
  · exact .inr ⟨ptext (gs.take (lrow gs).1) ++ [58], by rw [h2]; simp⟩
theorem Ph_q {gs : List Nat} {i : Nat} {pre : List UInt8} {q : List Nat} (h : Ph gs i pre q) (hg : ∀ x ∈ gs, x < 65536) : ∀ x ∈ q, x < 65536 := by
  intro x hx
  rcases h with ⟨_, h2, _⟩ | ⟨_, _, _, h4⟩
  · rw [h2] at hx; exact hg x (List.mem_of_mem_take hx)
  · rw [h4] at hx; exact hg x (List.mem_of_mem_drop (List.mem_of_mem_take hx))
end Go.Proofs.YtollaiabcnmebaaDoor
