/- The document's answer: ParseOf: an address of a text. -/
import Derived.Test.YtollaiabcnmebaaDoorRfK
import Derived.Test.YtollaiabcnmebaaDoorRfP
set_option linter.unusedVariables false
set_option linter.unusedSimpArgs false
namespace Go.Proofs.YtollaiabcnmebaaDoor
open Go.RowKit

/-- Where two colons stand side by side, from a place on. -/
def atOf (l : List UInt8) (k : Nat) : Int := if Lib.index (l.drop k) [58, 58] = -1 then -1 else Lib.index (l.drop k) [58, 58] + (k : Int)

theorem at_hit (l : List UInt8) (m : Nat) (h1 : m + 1 < l.length) (ha : l[m] = 58) (hb : l[m + 1] = 58) : atOf l m = (m : Int) := by
  unfold atOf
  rw [List.drop_eq_getElem_cons (show m < l.length by omega), List.drop_eq_getElem_cons h1, ha, hb, Lib.index]
  simp [List.isPrefixOf]
theorem at_miss (l : List UInt8) (m : Nat) (hm : m < l.length) (h : ([58, 58] : List UInt8).isPrefixOf (l.drop m) = false) : atOf l m = atOf l (m + 1) := by
  unfold atOf
  rw [List.drop_eq_getElem_cons hm] at h ⊢
  rw [Lib.index, h]
  have hge := Lib.index_ge (l.drop (m + 1)) [58, 58]
  generalize Lib.index (l.drop (m + 1)) [58, 58] = x at hge
  by_cases hx : x = -1
  · simp [hx]
  · have h2 : (x == -1) = false := by rw [beq_eq_false_iff_ne]; exact hx
    have h3 : ¬ (x + 1 = -1) := by omega
    simp [h2, hx, h3]; omega
theorem at_miss0 (l : List UInt8) (m : Nat) (hm : m < l.length) (h : ¬ m + 1 < l.length) : atOf l m = atOf l (m + 1) := by
  refine at_miss l m hm ?_
  rw [List.drop_eq_getElem_cons hm, List.drop_eq_nil_of_le (by omega)]; simp [List.isPrefixOf]
theorem at_miss1 (l : List UInt8) (m : Nat) (hm : m < l.length) (h : l[m] ≠ 58) : atOf l m = atOf l (m + 1) := by
  refine at_miss l m hm ?_
  rw [List.drop_eq_getElem_cons hm]; simp [List.isPrefixOf]
  intro e; exact absurd e.symm h
theorem at_miss2 (l : List UInt8) (m : Nat) (hm : m + 1 < l.length) (h : l[m + 1] ≠ 58) : atOf l m = atOf l (m + 1) := by
  refine at_miss l m (by omega) ?_
  rw [List.drop_eq_getElem_cons (show m < l.length by omega), List.drop_eq_getElem_cons hm]; simp [List.isPrefixOf]
  intro _ e; exact absurd e.symm h
theorem at_end (l : List UInt8) (k : Nat) (h : l.length ≤ k) : atOf l k = -1 := by rw [atOf, List.drop_eq_nil_of_le h]; simp [Lib.index]
theorem at_le (l : List UInt8) : ∀ d k, k + d = l.length → atOf l k = -1 ∨ (0 ≤ atOf l k ∧ atOf l k + 2 ≤ l.length)
  | 0, k, h => .inl (at_end l k (by omega))
  | d + 1, k, h => by
    have ih := at_le l d (k + 1) (by omega)
    by_cases h1 : k + 1 < l.length
    · by_cases ha : l[k] = 58
      · by_cases hb : l[k + 1] = 58
        · rw [at_hit l k h1 ha hb]; right; omega
        · rw [at_miss2 l k h1 hb]; exact ih
      · rw [at_miss1 l k (by omega) ha]; exact ih
    · rw [at_miss0 l k (by omega) h1]; exact ih
theorem cutc_none (l : List UInt8) (h : atOf l 0 = -1) : (Lib.cut l [58, 58]).2.2 = false := by
  unfold atOf at h
  rw [List.drop_zero] at h
  have hge := Lib.index_ge l [58, 58]
  unfold Lib.cut
  rw [if_neg (by split at h <;> omega)]
theorem cutc_some (l : List UInt8) (a : Nat) (h : atOf l 0 = (a : Int)) : Lib.cut l [58, 58] = (l.take a, l.drop (a + 2), true) := by
  unfold atOf at h
  rw [List.drop_zero] at h
  split at h
  · omega
  · rename_i hx
    have hge := Lib.index_ge l [58, 58]
    unfold Lib.cut
    rw [if_pos (by omega), show (Lib.index l [58, 58]).toNat = a by omega]; rfl

theorem str_to (s : ByteArray) (j : Nat) (W : World) (h2 : j ≤ s.size) (h3 : s.size ≤ 281474976710656) :
    (Instr.sliceAt 9 (.string s) none (some (.int .i64 (j : Int))) none).run Tryd.prog W = .ok (.string ⟨(s.data.toList.take j).toArray⟩) W := by
  have a2 : (j : Int) ≤ (s.size : Int) := by omega
  have h := ext_list s 0 j
  rw [List.drop_zero, Nat.sub_zero] at h
  rw [← h]
  simp [go_sem, a2]
theorem str_from (s : ByteArray) (i : Nat) (W : World) (h2 : i ≤ s.size) (h3 : s.size ≤ 281474976710656) :
    (Instr.sliceAt 9 (.string s) (some (.int .i64 (i : Int))) none none).run Tryd.prog W = .ok (.string ⟨(s.data.toList.drop i).toArray⟩) W := by
  have a2 : (i : Int) ≤ (s.size : Int) := by omega
  have h := ext_list s i s.size
  rw [List.take_of_length_le (by rw [List.length_drop, size_list]; exact Nat.le_refl _)] at h
  rw [← h]
  simp [go_sem, a2]

/-- A text of whatever length. -/
theorem rsix_len (l : List UInt8) (p : Nat × Nat) (h : rsix l = some p) : l.length ≤ 45 := by
  unfold rsix at h
  split at h
  · obtain ⟨gs, hg, hj⟩ := Option.bind_eq_some_iff.1 h
    have h1 := rgroups_len true l gs hg
    unfold joinG at hj
    split at hj
    · rename_i h8; rw [if_pos rfl] at h1; omega
    · cases hj
  · rename_i hc
    obtain ⟨a, ha, h⟩ := Option.bind_eq_some_iff.1 h
    obtain ⟨b, hb, h⟩ := Option.bind_eq_some_iff.1 h
    have h1 := rgroups_len false _ a ha
    have h2 := rgroups_len true _ b hb
    split at h
    · rename_i h7
      have h3 : l.length ≤ (Lib.cut l [58, 58]).1.length + 2 + (Lib.cut l [58, 58]).2.1.length := by
        unfold Lib.cut at hc ⊢
        split at hc
        · rename_i h0; rw [if_pos h0]; simp; omega
        · exact absurd rfl hc
      rw [if_neg (by decide)] at h1
      rw [if_pos rfl] at h2
      omega
    · cases h
theorem rparse_long (l : List UInt8) : rparse l = if (58 : UInt8) ∈ l then (rsix l).map fun p => (true, p.1, p.2) else (rfour l).map fun n => (false, 0, n) := by
  unfold rparse
  by_cases h : 45 < l.length
  · rw [if_pos h]
    split
    · cases hr : rsix l with
      | none => rfl
      | some p => have := rsix_len l p hr; omega
    · cases hr : rfour l with
      | none => rfl
      | some n => have := rfour_len l n hr; omega
  · rw [if_neg h]

theorem gbits_bin (gs : List Nat) : IsBin (gbits gs) := by
  induction gs with
  | nil => intro c hc; simp [gbits] at hc
  | cons g r ih =>
    intro c hc
    rw [gbits_cons] at hc
    rcases List.mem_append.1 hc with h | h
    · exact bin_isBin _ _ c h
    · exact ih c h
theorem gbits_num : ∀ (gs : List Nat) (acc : Nat), (∀ x ∈ gs, x < 65536) → vbin acc (gbits gs) = gnum gs acc
  | [], acc, _ => rfl
  | g :: r, acc, h => by
    have hg := h g (by simp)
    rw [gbits_cons, vbin_append, vbin_bin, gbits_num r _ (fun x hx => h x (List.mem_cons_of_mem _ hx)), gnum, Nat.mod_eq_of_lt (by omega)]
theorem gbits_zero : ∀ m : Nat, gbits (List.replicate m 0) = List.replicate (16 * m) 48
  | 0 => rfl
  | m + 1 => by
    rw [List.replicate_succ, gbits_cons, gbits_zero m, show bin 16 0 = List.replicate 16 48 by decide, List.replicate_append_replicate]
    congr 1; omega
theorem gbits_take (gs : List Nat) (k : Nat) : (gbits gs).take (16 * k) = gbits (gs.take k) := by
  induction gs generalizing k with
  | nil => simp [gbits]
  | cons g r ih =>
    cases k with
    | zero => simp [gbits]
    | succ k =>
      rw [List.take_succ_cons, gbits_cons, gbits_cons, show 16 * (k + 1) = (bin 16 g).length + 16 * k by rw [bin_length]; omega, List.take_length_add_append, ih]
theorem gbits_drop (gs : List Nat) (k : Nat) : (gbits gs).drop (16 * k) = gbits (gs.drop k) := by
  induction gs generalizing k with
  | nil => simp [gbits]
  | cons g r ih =>
    cases k with
    | zero => simp [gbits]
    | succ k =>
      rw [List.drop_succ_cons, gbits_cons, show 16 * (k + 1) = (bin 16 g).length + 16 * k by rw [bin_length]; omega, List.drop_length_add_append, ih]

/-- AddrOf, of the bits of eight groups. -/
theorem addrOf_six (gs : List Nat) (w : World) (h8 : gs.length = 8) (hlt : ∀ x ∈ gs, x < 65536) :
    Calls Tryd.prog 24 #[.string ⟨(gbits gs).toArray⟩] w fun e w' => e = .returned (.agg #[.bool true, .int .u64 ((gnum (gs.take 4) 0 : Nat) : Int), .int .u64 ((gnum (gs.drop 4) 0 : Nat) : Int)]) ∧ Below w.heap.size w w' := by
  have hz : (⟨(gbits gs).toArray⟩ : ByteArray).size = 128 := by show (gbits gs).toArray.size = 128; rw [List.size_toArray, gbits_length, h8]
  have := addrOf_any ⟨(gbits gs).toArray⟩ w (by omega) (gbits_bin gs)
  rw [hz] at this
  have e1 : (gbits gs).toArray.toList.take (128 - 64) = gbits (gs.take 4) := by show (gbits gs).take (16 * 4) = _; exact gbits_take gs 4
  have e2 : (gbits gs).toArray.toList.drop (128 - 64) = gbits (gs.drop 4) := by show (gbits gs).drop (16 * 4) = _; exact gbits_drop gs 4
  rw [e1, e2, gbits_num _ 0 (fun x hx => hlt x (List.mem_of_mem_take hx)), gbits_num _ 0 (fun x hx => hlt x (List.mem_of_mem_drop hx))] at this
  simpa using this
/-- AddrOf, of the bits of four bytes. -/
theorem addrOf_four (n : Nat) (w : World) (hn : n < 4294967296) :
    Calls Tryd.prog 24 #[.string ⟨(bin 32 n).toArray⟩] w fun e w' => e = .returned (.agg #[.bool false, .int .u64 0, .int .u64 (n : Int)]) ∧ Below w.heap.size w w' := by
  have hz : (⟨(bin 32 n).toArray⟩ : ByteArray).size = 32 := by show (bin 32 n).toArray.size = 32; rw [List.size_toArray, bin_length]
  have := addrOf_any ⟨(bin 32 n).toArray⟩ w (by omega) (bin_isBin 32 n)
  rw [hz] at this
  have e2 : vbin 0 ((bin 32 n).toArray.toList.drop (32 - 64)) = n := by show vbin 0 (bin 32 n) = n; rw [vbin_bin]; omega
  rw [e2] at this
  simpa [vbin] using this
end Go.Proofs.YtollaiabcnmebaaDoor
