/- A text cut at each such byte, without Go; and that strings.Split of the shelf is that. -/
import Derived.Lib.SplitLaws
namespace Go.Proofs.YtghbonlignmdoaaGreatDoor
open Go Go.Lib

/-- The pieces between such bytes. -/
def spl (c : UInt8) : List UInt8 → List (List UInt8)
  | [] => [[]]
  | b :: l => if b = c then [] :: spl c l else match spl c l with | [] => [[b]] | w :: r => (b :: w) :: r

theorem spl_split (c : UInt8) : ∀ l : List UInt8, splitK [c] 0 (count l [c]) l = spl c l
  | [] => by rw [count_one]; rfl
  | b :: l => by
    have ih := spl_split c l
    by_cases h : b = c
    · subst h
      have hix : index (b :: l) [b] = ((0 : Nat) : Int) := by rw [index]; simp [List.isPrefixOf]
      rw [count_cons_eq, Nat.add_comm, splitK, hix, spl, if_pos rfl]
      simp
      exact ih
    · rw [count_cons_ne b c l h, spl, if_neg h, ← ih]
      have hp : ([c] : List UInt8).isPrefixOf (b :: l) = false := by simp [List.isPrefixOf, Ne.symm h]
      have hix : index (b :: l) [c] = if index l [c] == -1 then -1 else index l [c] + 1 := by rw [index, hp]; simp
      by_cases hm : index l [c] = -1
      · rw [count_miss hm]; rfl
      · have hge := index_ge l [c]
        obtain ⟨j, hj⟩ : ∃ j : Nat, index l [c] = j := ⟨(index l [c]).toNat, by omega⟩
        have hix' : index (b :: l) [c] = ((j + 1 : Nat) : Int) := by rw [hix, if_neg (fun e => hm (beq_iff_eq.1 e)), hj]; omega
        rw [count_hit (by simp) hj, Nat.add_comm 1, splitK, splitK, hix', hj]
        have e1 : (((j + 1 : Nat) : Int) == -1) = false := by rw [beq_eq_false_iff_ne]; omega
        have e2 : (((j : Nat) : Int) == -1) = false := by rw [beq_eq_false_iff_ne]; omega
        rw [e1, e2]
        simp [List.drop_succ_cons]

theorem spl_ne (c : UInt8) (l : List UInt8) : spl c l ≠ [] := by
  cases l with
  | nil => simp [spl]
  | cons b l => rw [spl]; split; simp; split <;> simp

theorem splitB_spl (c : UInt8) (s : ByteArray) : (splitB ⟨#[c]⟩ 0 (countB s ⟨#[c]⟩) s).map (·.data.toList) = spl c s.data.toList := by
  rw [splitB_data]; exact spl_split c s.data.toList
theorem countB_spl (c : UInt8) (s : ByteArray) : countB s ⟨#[c]⟩ + 1 = (spl c s.data.toList).length := by
  rw [← splitB_spl, List.length_map, splitB_all _ (by simp [ByteArray.size]) 0 _ s rfl]
end Go.Proofs.YtghbonlignmdoaaGreatDoor
