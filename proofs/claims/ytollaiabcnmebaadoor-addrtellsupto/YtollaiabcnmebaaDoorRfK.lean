/- Bytes that lie in a row, and texts as bytes. -/
import Derived.Test.YtollaiabcnmebaaDoorRfJ
set_option linter.unusedVariables false
set_option linter.unusedSimpArgs false
namespace Go.Proofs.YtollaiabcnmebaaDoor
open Go.RowKit

/-- Bytes lie in a row. -/
def RowU (W : World) (B : Nat) (R : List UInt8) : Prop := ∀ (j : Nat) (c : UInt8), R[j]? = some c → W.cell? ⟨B, j, none⟩ = some (.int .u8 (c.toNat : Int)) ∧ W.frozen? ⟨B, j, none⟩ = false
theorem RowU.set {W : World} {B : Nat} {R : List UInt8} (h : RowU W B R) (m : Nat) (hm : m < R.length) (c : UInt8) : RowU (W.setCell ⟨B, m, none⟩ (.int .u8 (c.toNat : Int))) B (R.set m c) := by
  intro j d hj
  by_cases hjm : j = m
  · subst hjm
    rw [List.getElem?_set_self hm] at hj
    injection hj with hj; subst hj
    obtain ⟨h1, h2⟩ := h j R[j] (List.getElem?_eq_getElem hm)
    exact ⟨World.cell?_setCell_same (w := W) (a := ⟨B, j, none⟩) (v := .int .u8 (c.toNat : Int)) (h := h1), by rw [World.frozen?_setCell]; exact h2⟩
  · rw [List.getElem?_set_ne (Ne.symm hjm)] at hj
    obtain ⟨h1, h2⟩ := h j d hj
    refine ⟨?_, by rw [World.frozen?_setCell]; exact h2⟩
    rw [World.cell?_setCell_other (w := W) (a := ⟨B, m, none⟩) (b := ⟨B, j, none⟩) (v := .int .u8 (c.toNat : Int)) (h := by intro e; injection e with _ e; exact hjm e.symm)]
    exact h1
theorem RowU.below {W W' : World} {B : Nat} {R : List UInt8} (h : RowU W B R) (hB : B < W.heap.size) (hb : Below W.heap.size W W') : RowU W' B R := by
  intro j d hj
  obtain ⟨h1, h2⟩ := h j d hj
  exact ⟨by rw [(bcell hb).1 B j hB]; exact h1, by rw [(bcell hb).2 B j hB]; exact h2⟩

theorem Has3.store {W : World} {p : Nat} {x y z : Value} (h : Has3 W p x y z) (x' y' z' : Value) :
    Has3 (((W.setCell ⟨p, 0, none⟩ x').setCell ⟨p, 1, none⟩ y').setCell ⟨p, 2, none⟩ z') p x' y' z' := by
  obtain ⟨h0, h1, h2, h3⟩ := h
  have ne : ∀ a b : Nat, a ≠ b → (⟨p, a, none⟩ : Addr) ≠ ⟨p, b, none⟩ := by intro a b hab e; injection e with _ e; exact hab e
  refine ⟨?_, ?_, ?_, by simpa using h3⟩
  · rw [World.cell?_setCell_other (h := ne 2 0 (by decide)), World.cell?_setCell_other (h := ne 1 0 (by decide))]
    exact World.cell?_setCell_same _ _ _ h0
  · rw [World.cell?_setCell_other (h := ne 2 1 (by decide))]
    exact World.cell?_setCell_same _ _ _ (u := y) (by rw [World.cell?_setCell_other (h := ne 0 1 (by decide))]; exact h1)
  · exact World.cell?_setCell_same _ _ _ (u := z) (by rw [World.cell?_setCell_other (h := ne 1 2 (by decide)), World.cell?_setCell_other (h := ne 0 2 (by decide))]; exact h2)
theorem conv_bytes (W : World) (s : ByteArray) : ∃ (c : Nat) (W2 : World), (convert 9 48 (.string s)).run Tryd.prog W = .ok (.slice (some ⟨W.heap.size, 0, none⟩) s.size c) W2 ∧
    RowU W2 W.heap.size s.data.toList ∧ Below W.heap.size W W2 ∧ W2.heap.size = W.heap.size + 1 := by
  refine ⟨_, _, run_bytes_of_string (P := Tryd.prog) W 9 48 5 s Tryd.underlying9 Tryd.underlying48 Tryd.underlying5, ?_, ?_, by simp⟩
  · intro j c hj
    have hj2 : j < s.data.toList.length := (List.getElem?_eq_some_iff.1 hj).1
    have hj3 : j < s.data.size := by simpa using hj2
    constructor
    · have hc : s.data[j] = c := by have := (List.getElem?_eq_some_iff.1 hj).2; simpa using this
      simp [World.cell?, bytesRow, World.alloc, World.drew, -World.alloc_eq, -World.drew_eq, Array.getElem?_append, hj3, hc]
      rw [if_pos (show j < s.size from hj3), Array.getElem?_eq_getElem hj3, hc]; rfl
    · rw [show W.heap.size = W.drew.heap.size from rfl, World.frozen?_alloc_mark]
      have hz : (bytesRow s (grownCap W s.size 0 5)).size = s.data.size + (grownCap W s.size 0 5 - s.size) := by simp [bytesRow]
      have : ¬ (bytesRow s (grownCap W s.size 0 5)).size ≤ j := by rw [hz]; omega
      simp [this]
  · exact (((Below.refl _ W).drew).alloc (Nat.le_refl _) _)

end Go.Proofs.YtollaiabcnmebaaDoor
