/- The document's answer: ParseOf, TextOf, and the numbers of bits (several texts as one). -/
import Derived.Test.YtollaiabcnmebaaGreatDoorRmA
import Derived.Test.YtollaiabcnmebaaGreatDoorBegun
set_option linter.unusedVariables false
set_option linter.unusedSimpArgs false
namespace Go.Proofs.YtollaiabcnmebaaGreatDoor
open Go.RowKit

theorem bitsT_bin (v : Bool) (hi lo : Nat) : IsBin (bitsT v hi lo) := by
  unfold bitsT
  split
  · intro c hc
    rcases List.mem_append.1 hc with h | h
    · exact bin_isBin _ _ c h
    · exact bin_isBin _ _ c h
  · exact bin_isBin _ _
theorem bitsT_length (v : Bool) (hi lo : Nat) : (bitsT v hi lo).length = if v then 128 else 32 := by
  unfold bitsT
  split
  · rw [List.length_append, bin_length, bin_length]
  · rw [bin_length]
theorem bitsT_num (v : Bool) (hi lo : Nat) (h1 : hi < 18446744073709551616) (l1 : lo < 18446744073709551616) (hv : v = true ∨ (hi = 0 ∧ lo ≤ 4294967295)) :
    vbin 0 (bitsT v hi lo) = hi * 18446744073709551616 + lo := by
  cases v
  · simp at hv
    rw [bitsT, if_neg (by decide), vbin_bin, hv.1]
    have : lo % 2 ^ 32 = lo := Nat.mod_eq_of_lt (by omega)
    omega
  · rw [bitsT, if_pos rfl, vbin_append, vbin_bin, vbin_bin]
    have h2 : hi % 2 ^ 64 = hi := Nat.mod_eq_of_lt (by omega)
    have h3 : lo % 2 ^ 64 = lo := Nat.mod_eq_of_lt (by omega)
    omega

theorem keep33 {w W W' : World} {p q : Nat} {x y z x2 y2 z2 : Value}
    (h : Has3 W p x y z ∧ Has3 W q x2 y2 z2 ∧ Below w.heap.size w W) (hb : Below W.heap.size W W') : Has3 W' p x y z ∧ Has3 W' q x2 y2 z2 ∧ Below w.heap.size w W' :=
  ⟨h.1.below hb, h.2.1.below hb, btr h.2.2 hb⟩

end Go.Proofs.YtollaiabcnmebaaGreatDoor

namespace Go.Proofs.YtollaiabcnmebaaGreatDoor
open Go.RowKit

/-- Bytes lie in a row. -/
def RowU (W : World) (B : Nat) (R : List UInt8) : Prop := ∀ (j : Nat) (c : UInt8), R[j]? = some c → W.cell? ⟨B, j, none⟩ = some (.int .u8 (c.toNat : Int)) ∧ W.frozen? ⟨B, j, none⟩ = false
theorem RowU.set {W : World} {B : Nat} {R : List UInt8} (h : RowU W B R) (m : Nat) (hm : m < R.length) (c : UInt8) : RowU (W.setCell ⟨B, m, none⟩ (.int .u8 (c.toNat : Int))) B (R.set m c) := by
  intro j d hj
  by_cases hjm : j = m
  · subst hjm
    rw [List.getElem?_set_self hm] at hj
    injection hj with hj; subst hj
    obtain ⟨h1, h2⟩ := h j R[j] (List.getElem?_eq_getElem hm)
    exact ⟨World.cell?_setCell_same (w := W) (a := ⟨B, j, none⟩) (v := .int .u8 (c.toNat : Int)) (h := h1), by rw [World.frozen?_setCell]; exact h2⟩
  · rw [List.getElem?_set_ne (Ne.symm hjm)] at hj
    obtain ⟨h1, h2⟩ := h j d hj
    refine ⟨?_, by rw [World.frozen?_setCell]; exact h2⟩
    rw [World.cell?_setCell_other (w := W) (a := ⟨B, m, none⟩) (b := ⟨B, j, none⟩) (v := .int .u8 (c.toNat : Int)) (h := by intro e; injection e with _ e; exact hjm e.symm)]
    exact h1
theorem RowU.below {W W' : World} {B : Nat} {R : List UInt8} (h : RowU W B R) (hB : B < W.heap.size) (hb : Below W.heap.size W W') : RowU W' B R := by
  intro j d hj
  obtain ⟨h1, h2⟩ := h j d hj
  exact ⟨by rw [(bcell hb).1 B j hB]; exact h1, by rw [(bcell hb).2 B j hB]; exact h2⟩

theorem Has3.store {W : World} {p : Nat} {x y z : Value} (h : Has3 W p x y z) (x' y' z' : Value) :
    Has3 (((W.setCell ⟨p, 0, none⟩ x').setCell ⟨p, 1, none⟩ y').setCell ⟨p, 2, none⟩ z') p x' y' z' := by
  obtain ⟨h0, h1, h2, h3⟩ := h
  have ne : ∀ a b : Nat, a ≠ b → (⟨p, a, none⟩ : Addr) ≠ ⟨p, b, none⟩ := by intro a b hab e; injection e with _ e; exact hab e
  refine ⟨?_, ?_, ?_, by simpa using h3⟩
  · rw [World.cell?_setCell_other (h := ne 2 0 (by decide)), World.cell?_setCell_other (h := ne 1 0 (by decide))]
    exact World.cell?_setCell_same _ _ _ h0
  · rw [World.cell?_setCell_other (h := ne 2 1 (by decide))]
    exact World.cell?_setCell_same _ _ _ (u := y) (by rw [World.cell?_setCell_other (h := ne 0 1 (by decide))]; exact h1)
  · exact World.cell?_setCell_same _ _ _ (u := z) (by rw [World.cell?_setCell_other (h := ne 1 2 (by decide)), World.cell?_setCell_other (h := ne 0 2 (by decide))]; exact h2)
theorem conv_bytes (W : World) (s : ByteArray) : ∃ (c : Nat) (W2 : World), (convert 9 59 (.string s)).run Tryz.prog W = .ok (.slice (some ⟨W.heap.size, 0, none⟩) s.size c) W2 ∧
    RowU W2 W.heap.size s.data.toList ∧ Below W.heap.size W W2 ∧ W2.heap.size = W.heap.size + 1 := by
  refine ⟨_, _, run_bytes_of_string (P := Tryz.prog) W 9 59 5 s Tryz.underlying9 Tryz.underlying59 Tryz.underlying5, ?_, ?_, by simp⟩
  · intro j c hj
    have hj2 : j < s.data.toList.length := (List.getElem?_eq_some_iff.1 hj).1
    have hj3 : j < s.data.size := by simpa using hj2
    constructor
    · have hc : s.data[j] = c := by have := (List.getElem?_eq_some_iff.1 hj).2; simpa using this
      simp [World.cell?, bytesRow, World.alloc, World.drew, -World.alloc_eq, -World.drew_eq, Array.getElem?_append, hj3, hc]
      rw [if_pos (show j < s.size from hj3), Array.getElem?_eq_getElem hj3, hc]; rfl
    · rw [show W.heap.size = W.drew.heap.size from rfl, World.frozen?_alloc_mark]
      have hz : (bytesRow s (grownCap W s.size 0 5)).size = s.data.size + (grownCap W s.size 0 5 - s.size) := by simp [bytesRow]
      have : ¬ (bytesRow s (grownCap W s.size 0 5)).size ≤ j := by rw [hz]; omega
      simp [this]
  · exact (((Below.refl _ W).drew).alloc (Nat.le_refl _) _)

end Go.Proofs.YtollaiabcnmebaaGreatDoor

namespace Go.Proofs.YtollaiabcnmebaaGreatDoor
open Go.RowKit

/-- Where two colons stand side by side, from a place on. -/
def atOf (l : List UInt8) (k : Nat) : Int := if Lib.index (l.drop k) [58, 58] = -1 then -1 else Lib.index (l.drop k) [58, 58] + (k : Int)

theorem at_hit (l : List UInt8) (m : Nat) (h1 : m + 1 < l.length) (ha : l[m] = 58) (hb : l[m + 1] = 58) : atOf l m = (m : Int) := by
  unfold atOf
  rw [List.drop_eq_getElem_cons (show m < l.length by omega), List.drop_eq_getElem_cons h1, ha, hb, Lib.index]
  simp [List.isPrefixOf]
theorem at_miss (l : List UInt8) (m : Nat) (hm : m < l.length) (h : ([58, 58] : List UInt8).isPrefixOf (l.drop m) = false) : atOf l m = atOf l (m + 1) := by
  unfold atOf
  rw [List.drop_eq_getElem_cons hm] at h ⊢
  rw [Lib.index, h]
  have hge := Lib.index_ge (l.drop (m + 1)) [58, 58]
  generalize Lib.index (l.drop (m + 1)) [58, 58] = x at hge
  by_cases hx : x = -1
  · simp [hx]
  · have h2 : (x == -1) = false := by rw [beq_eq_false_iff_ne]; exact hx
    have h3 : ¬ (x + 1 = -1) := by omega
    simp [h2, hx, h3]; omega
theorem at_miss0 (l : List UInt8) (m : Nat) (hm : m < l.length) (h : ¬ m + 1 < l.length) : atOf l m = atOf l (m + 1) := by
  refine at_miss l m hm ?_
  rw [List.drop_eq_getElem_cons hm, List.drop_eq_nil_of_le (by omega)]; simp [List.isPrefixOf]
theorem at_miss1 (l : List UInt8) (m : Nat) (hm : m < l.length) (h : l[m] ≠ 58) : atOf l m = atOf l (m + 1) := by
  refine at_miss l m hm ?_
  rw [List.drop_eq_getElem_cons hm]; simp [List.isPrefixOf]
  intro e; exact absurd e.symm h
theorem at_miss2 (l : List UInt8) (m : Nat) (hm : m + 1 < l.length) (h : l[m + 1] ≠ 58) : atOf l m = atOf l (m + 1) := by
  refine at_miss l m (by omega) ?_
  rw [List.drop_eq_getElem_cons (show m < l.length by omega), List.drop_eq_getElem_cons hm]; simp [List.isPrefixOf]
  intro _ e; exact absurd e.symm h
theorem at_end (l : List UInt8) (k : Nat) (h : l.length ≤ k) : atOf l k = -1 := by rw [atOf, List.drop_eq_nil_of_le h]; simp [Lib.index]
theorem at_le (l : List UInt8) : ∀ d k, k + d = l.length → atOf l k = -1 ∨ (0 ≤ atOf l k ∧ atOf l k + 2 ≤ l.length)
  | 0, k, h => .inl (at_end l k (by omega))
  | d + 1, k, h => by
    have ih := at_le l d (k + 1) (by omega)
    by_cases h1 : k + 1 < l.length
    · by_cases ha : l[k] = 58
      · by_cases hb : l[k + 1] = 58
        · rw [at_hit l k h1 ha hb]; right; omega
        · rw [at_miss2 l k h1 hb]; exact ih
      · rw [at_miss1 l k (by omega) ha]; exact ih
    · rw [at_miss0 l k (by omega) h1]; exact ih
theorem cutc_none (l : List UInt8) (h : atOf l 0 = -1) : (Lib.cut l [58, 58]).2.2 = false := by
  unfold atOf at h
  rw [List.drop_zero] at h
  have hge := Lib.index_ge l [58, 58]
  unfold Lib.cut
  rw [if_neg (by split at h <;> omega)]
theorem cutc_some (l : List UInt8) (a : Nat) (h : atOf l 0 = (a : Int)) : Lib.cut l [58, 58] = (l.take a, l.drop (a + 2), true) := by
  unfold atOf at h
  rw [List.drop_zero] at h
  split at h
  · omega
  · rename_i hx
    have hge := Lib.index_ge l [58, 58]
    unfold Lib.cut
    rw [if_pos (by omega), show (Lib.index l [58, 58]).toNat = a by omega]; rfl

theorem str_to (s : ByteArray) (j : Nat) (W : World) (h2 : j ≤ s.size) (h3 : s.size ≤ 281474976710656) :
    (Instr.sliceAt 9 (.string s) none (some (.int .i64 (j : Int))) none).run Tryz.prog W = .ok (.string ⟨(s.data.toList.take j).toArray⟩) W := by
  have a2 : (j : Int) ≤ (s.size : Int) := by omega
  have h := ext_list s 0 j
  rw [List.drop_zero, Nat.sub_zero] at h
  rw [← h]
  simp [go_sem, a2]
theorem str_from (s : ByteArray) (i : Nat) (W : World) (h2 : i ≤ s.size) (h3 : s.size ≤ 281474976710656) :
    (Instr.sliceAt 9 (.string s) (some (.int .i64 (i : Int))) none none).run Tryz.prog W = .ok (.string ⟨(s.data.toList.drop i).toArray⟩) W := by
  have a2 : (i : Int) ≤ (s.size : Int) := by omega
  have h := ext_list s i s.size
  rw [List.take_of_length_le (by rw [List.length_drop, size_list]; exact Nat.le_refl _)] at h
  rw [← h]
  simp [go_sem, a2]

/-- A text of whatever length. -/
theorem rsix_len (l : List UInt8) (p : Nat × Nat) (h : rsix l = some p) : l.length ≤ 45 := by
  unfold rsix at h
  split at h
  · obtain ⟨gs, hg, hj⟩ := Option.bind_eq_some_iff.1 h
    have h1 := rgroups_len true l gs hg
    unfold joinG at hj
    split at hj
    · rename_i h8; rw [if_pos rfl] at h1; omega
    · cases hj
  · rename_i hc
    obtain ⟨a, ha, h⟩ := Option.bind_eq_some_iff.1 h
    obtain ⟨b, hb, h⟩ := Option.bind_eq_some_iff.1 h
    have h1 := rgroups_len false _ a ha
    have h2 := rgroups_len true _ b hb
    split at h
    · rename_i h7
      have h3 : l.length ≤ (Lib.cut l [58, 58]).1.length + 2 + (Lib.cut l [58, 58]).2.1.length := by
        unfold Lib.cut at hc ⊢
        split at hc
        · rename_i h0; rw [if_pos h0]; simp; omega
        · exact absurd rfl hc
      rw [if_neg (by decide)] at h1
      rw [if_pos rfl] at h2
      omega
    · cases h
theorem rparse_long (l : List UInt8) : rparse l = if (58 : UInt8) ∈ l then (rsix l).map fun p => (true, p.1, p.2) else (rfour l).map fun n => (false, 0, n) := by
  unfold rparse
  by_cases h : 45 < l.length
  · rw [if_pos h]
    split
    · cases hr : rsix l with
      | none => rfl
      | some p => have := rsix_len l p hr; omega
    · cases hr : rfour l with
      | none => rfl
      | some n => have := rfour_len l n hr; omega
  · rw [if_neg h]

theorem gbits_bin (gs : List Nat) : IsBin (gbits gs) := by
  induction gs with
  | nil => intro c hc; simp [gbits] at hc
  | cons g r ih =>
    intro c hc
    rw [gbits_cons] at hc
    rcases List.mem_append.1 hc with h | h
    · exact bin_isBin _ _ c h
    · exact ih c h
theorem gbits_num : ∀ (gs : List Nat) (acc : Nat), (∀ x ∈ gs, x < 65536) → vbin acc (gbits gs) = gnum gs acc
  | [], acc, _ => rfl
  | g :: r, acc, h => by
    have hg := h g (by simp)
    rw [gbits_cons, vbin_append, vbin_bin, gbits_num r _ (fun x hx => h x (List.mem_cons_of_mem _ hx)), gnum, Nat.mod_eq_of_lt (by omega)]
theorem gbits_zero : ∀ m : Nat, gbits (List.replicate m 0) = List.replicate (16 * m) 48
  | 0 => rfl
  | m + 1 => by
    rw [List.replicate_succ, gbits_cons, gbits_zero m, show bin 16 0 = List.replicate 16 48 by decide, List.replicate_append_replicate]
    congr 1; omega
theorem gbits_take (gs : List Nat) (k : Nat) : (gbits gs).take (16 * k) = gbits (gs.take k) := by
  induction gs generalizing k with
  | nil => simp [gbits]
  | cons g r ih =>
    cases k with
    | zero => simp [gbits]
    | succ k =>
      rw [List.take_succ_cons, gbits_cons, gbits_cons, show 16 * (k + 1) = (bin 16 g).length + 16 * k by rw [bin_length]; omega, List.take_length_add_append, ih]
theorem gbits_drop (gs : List Nat) (k : Nat) : (gbits gs).drop (16 * k) = gbits (gs.drop k) := by
  induction gs generalizing k with
  | nil => simp [gbits]
  | cons g r ih =>
    cases k with
    | zero => simp [gbits]
    | succ k =>
      rw [List.drop_succ_cons, gbits_cons, show 16 * (k + 1) = (bin 16 g).length + 16 * k by rw [bin_length]; omega, List.drop_length_add_append, ih]

/-- AddrOf, of the bits of eight groups. -/
theorem addrOf_six (gs : List Nat) (w : World) (h8 : gs.length = 8) (hlt : ∀ x ∈ gs, x < 65536) :
    Calls Tryz.prog 34 #[.string ⟨(gbits gs).toArray⟩] w fun e w' => e = .returned (.agg #[.bool true, .int .u64 ((gnum (gs.take 4) 0 : Nat) : Int), .int .u64 ((gnum (gs.drop 4) 0 : Nat) : Int)]) ∧ Below w.heap.size w w' := by
  have hz : (⟨(gbits gs).toArray⟩ : ByteArray).size = 128 := by show (gbits gs).toArray.size = 128; rw [List.size_toArray, gbits_length, h8]
  have := addrOf_any ⟨(gbits gs).toArray⟩ w (by omega) (gbits_bin gs)
  rw [hz] at this
  have e1 : (gbits gs).toArray.toList.take (128 - 64) = gbits (gs.take 4) := by show (gbits gs).take (16 * 4) = _; exact gbits_take gs 4
  have e2 : (gbits gs).toArray.toList.drop (128 - 64) = gbits (gs.drop 4) := by show (gbits gs).drop (16 * 4) = _; exact gbits_drop gs 4
  rw [e1, e2, gbits_num _ 0 (fun x hx => hlt x (List.mem_of_mem_take hx)), gbits_num _ 0 (fun x hx => hlt x (List.mem_of_mem_drop hx))] at this
  simpa using this
/-- AddrOf, of the bits of four bytes. -/
theorem addrOf_four (n : Nat) (w : World) (hn : n < 4294967296) :
    Calls Tryz.prog 34 #[.string ⟨(bin 32 n).toArray⟩] w fun e w' => e = .returned (.agg #[.bool false, .int .u64 0, .int .u64 (n : Int)]) ∧ Below w.heap.size w w' := by
  have hz : (⟨(bin 32 n).toArray⟩ : ByteArray).size = 32 := by show (bin 32 n).toArray.size = 32; rw [List.size_toArray, bin_length]
  have := addrOf_any ⟨(bin 32 n).toArray⟩ w (by omega) (bin_isBin 32 n)
  rw [hz] at this
  have e2 : vbin 0 ((bin 32 n).toArray.toList.drop (32 - 64)) = n := by show vbin 0 (bin 32 n) = n; rw [vbin_bin]; omega
  rw [e2] at this
  simpa [vbin] using this
end Go.Proofs.YtollaiabcnmebaaGreatDoor

namespace Go.Proofs.YtollaiabcnmebaaGreatDoor
open Go.RowKit

def strLen : Value → Nat
  | .string b => b.size
  | _ => 0

set_option maxHeartbeats 16000000 in
set_option maxRecDepth 100000 in
theorem parseOf_any (s : ByteArray) (w : World) (hs : s.size ≤ 1048576) :
    Calls Tryz.prog 36 #[.string s] w fun e w' => e = .returned (.tuple #[prV (rparse s.data.toList), .bool (rparse s.data.toList).isSome]) ∧ Below w.heap.size w w' := by
  have hl := size_list s
  obtain ⟨N, hN⟩ : ∃ N, N = s.size := ⟨_, rfl⟩
  have HN : Hid (N = s.size) := hN
  have hN20 : N ≤ 1048576 := by omega
  have HB0 : Hid (Below w.heap.size w (w.alloc (.cells #[.bool false, .int .u64 0, .int .u64 0] 24))) := bal (Below.refl _ _) _
  have P1 : Hid (Has3 (w.alloc (.cells #[.bool false, .int .u64 0, .int .u64 0] 24)) w.heap.size (.bool false) (.int .u64 0) (.int .u64 0)) := Has3.new w _ _ _ _
  have F1 : Hid (∀ o, (w.alloc (.cells #[.bool false, .int .u64 0, .int .u64 0] 24)).frozen? ⟨w.heap.size, o, none⟩ = false) := fun o => World.frozen?_alloc_at _ _ _ _ rfl
  obtain ⟨R, hR⟩ : ∃ R, R = rparse s.data.toList := ⟨_, rfl⟩
  have HR : Hid (R = rparse s.data.toList) := hR
  rw [← hR]
  clear hN hR
  go_enter Tryz.func36, Tryz.ntmps36
  go_wp2_with fail
  generalize w.alloc (.cells #[.bool false, .int .u64 0, .int .u64 0] 24) = W0 at *
  go_loop [4, 5, 6] (fun vc va vi => ∃ (k : Nat) (c : Bool) (a j : Int), vi = .int .i64 j ∧ vc = .bool c ∧ va = .int .i64 a ∧ k ≤ N ∧ Hid (j = (k : Int) - 1 ∧ c = decide ((58 : UInt8) ∈ s.data.toList.drop k) ∧ a = atOf s.data.toList k))
    (fun _ _ vi => (intOf vi + 1).toNat)
  case atStart => exact ⟨N, false, -1, (s.size : Int) - 1, rfl, rfl, rfl, Nat.le_refl _, by have := HN.out; omega, by rw [List.drop_eq_nil_of_le (by rw [hl, ← HN.out]; exact Nat.le_refl _)]; rfl, (at_end _ N (by rw [hl, ← HN.out]; exact Nat.le_refl _)).symm⟩
  case round =>
    obtain ⟨k, c, a, j, rfl, rfl, rfl, hk, HH⟩ := hrel
    obtain ⟨e1, e2, e3⟩ := HH.out
    have hN := HN.out
    by_cases hk0 : 0 < k
    · obtain ⟨m, hm⟩ : ∃ m, k = m + 1 := ⟨k - 1, by omega⟩
      subst hm
      have hjm : j = (m : Int) := by rw [e1]; omega
      subst hjm
      have hms : m < s.size := by omega
      have hml : m < s.data.toList.length := by omega
      have hmem : ((58 : UInt8) ∈ s.data.toList.drop m) = (s[m] = 58 ∨ (58 : UInt8) ∈ s.data.toList.drop (m + 1)) := by
        rw [List.drop_eq_getElem_cons hml, data_get s m hms, List.mem_cons]
        exact propext ⟨fun h => h.imp Eq.symm id, fun h => h.imp Eq.symm id⟩
      have hmi : (m : Int) < (s.size : Int) := by omega
      have hm0 : (0 : Int) ≤ (m : Int) := by omega
      have hsk : s[m]? = some s[m] := by simp [hms]
      have hat0 := at_miss0 s.data.toList m hml
      have hat1 := at_miss1 s.data.toList m hml
      rw [data_get s m hms] at hat1
      have Hc : Hid (c = decide ((58 : UInt8) ∈ s.data.toList.drop (m + 1))) := e2
      have Ha : Hid (a = atOf s.data.toList (m + 1)) := e3
      clear e1 e2 e3 HH
      by_cases hx : s[m] = 58
      · have hxi : (s[m].toNat : Int) = 58 := by rw [hx]; rfl
        by_cases h1 : m + 1 < s.size
        · have hm1 : (m : Int) + 1 < (s.size : Int) := by omega
          have hsk1 : s[m + 1]? = some s[m + 1] := by simp [h1]
          by_cases hy : s[m + 1] = 58
          · have hyi : (s[m + 1].toNat : Int) = 58 := by rw [hy]; rfl
            have HD : Hid (true = decide ((58 : UInt8) ∈ s.data.toList.drop m) ∧ (m : Int) = atOf s.data.toList m) := ⟨by rw [decide_eq_true]; rw [hmem]; exact .inl hx, (at_hit s.data.toList m (by omega) (by rw [data_get s m hms]; exact hx) (by rw [data_get s (m + 1) h1]; exact hy)).symm⟩
            clear hat0 hat1 hmem Ha Hc
            cases c with
            | false =>
              go_wp2_with fail
              exact ⟨⟨m, _, _, _, rfl, rfl, rfl, by omega, rfl, HD.out.1, HD.out.2⟩, by simp [intOf]⟩
            | true =>
              go_wp2_with fail
              exact ⟨⟨m, _, _, _, rfl, rfl, rfl, by omega, rfl, HD.out.1, HD.out.2⟩, by simp [intOf]⟩
          · have hyi : ¬ (s[m + 1].toNat : Int) = 58 := fun e => hy (UInt8.toNat_inj.1 (by have : (58 : UInt8).toNat = 58 := rfl; omega))
            have HD : Hid (true = decide ((58 : UInt8) ∈ s.data.toList.drop m) ∧ a = atOf s.data.toList m) := ⟨by rw [decide_eq_true]; rw [hmem]; exact .inl hx, by rw [at_miss2 s.data.toList m (by omega) (by rw [data_get s (m + 1) h1]; exact hy)]; exact Ha.out⟩
            clear hat0 hat1 hmem Ha Hc
            cases c with
            | false =>
              go_wp2_with fail
              exact ⟨⟨m, _, _, _, rfl, rfl, rfl, by omega, rfl, HD.out.1, HD.out.2⟩, by simp [intOf]⟩
            | true =>
              go_wp2_with fail
              exact ⟨⟨m, _, _, _, rfl, rfl, rfl, by omega, rfl, HD.out.1, HD.out.2⟩, by simp [intOf]⟩
        · have hm1 : ¬ (m : Int) + 1 < (s.size : Int) := by omega
          have HD : Hid (true = decide ((58 : UInt8) ∈ s.data.toList.drop m) ∧ a = atOf s.data.toList m) := ⟨by rw [decide_eq_true]; rw [hmem]; exact .inl hx, by rw [hat0 (by omega)]; exact Ha.out⟩
          clear hat0 hat1 hmem Ha Hc
          cases c with
          | false =>
            go_wp2_with fail
            exact ⟨⟨m, _, _, _, rfl, rfl, rfl, by omega, rfl, HD.out.1, HD.out.2⟩, by simp [intOf]⟩
          | true =>
            go_wp2_with fail
            exact ⟨⟨m, _, _, _, rfl, rfl, rfl, by omega, rfl, HD.out.1, HD.out.2⟩, by simp [intOf]⟩
      · have hxi : ¬ (s[m].toNat : Int) = 58 := fun e => hx (UInt8.toNat_inj.1 (by have : (58 : UInt8).toNat = 58 := rfl; omega))
        have hxb : ((s[m].toNat : Int) == 58) = false := by rw [beq_eq_false_iff_ne]; exact hxi
        by_cases h1 : m + 1 < s.size
        · have hm1 : (m : Int) + 1 < (s.size : Int) := by omega
          have HD : Hid (c = decide ((58 : UInt8) ∈ s.data.toList.drop m) ∧ a = atOf s.data.toList m) := ⟨by rw [Hc.out]; congr 1; rw [hmem, eq_iff_iff]; simp [hx], by rw [hat1 hx]; exact Ha.out⟩
          clear hat0 hat1 hmem Ha Hc
          cases c with
          | false =>
            go_wp2_with fail
            exact ⟨⟨m, _, _, _, rfl, rfl, rfl, by omega, rfl, HD.out.1, HD.out.2⟩, by simp [intOf]⟩
          | true =>
            go_wp2_with fail
            exact ⟨⟨m, _, _, _, rfl, rfl, rfl, by omega, rfl, HD.out.1, HD.out.2⟩, by simp [intOf]⟩
        · have hm1 : ¬ (m : Int) + 1 < (s.size : Int) := by omega
          have HD : Hid (c = decide ((58 : UInt8) ∈ s.data.toList.drop m) ∧ a = atOf s.data.toList m) := ⟨by rw [Hc.out]; congr 1; rw [hmem, eq_iff_iff]; simp [hx], by rw [hat1 hx]; exact Ha.out⟩
          clear hat0 hat1 hmem Ha Hc
          cases c with
          | false =>
            go_wp2_with fail
            exact ⟨⟨m, _, _, _, rfl, rfl, rfl, by omega, rfl, HD.out.1, HD.out.2⟩, by simp [intOf]⟩
          | true =>
            go_wp2_with fail
            exact ⟨⟨m, _, _, _, rfl, rfl, rfl, by omega, rfl, HD.out.1, HD.out.2⟩, by simp [intOf]⟩
    · have hk00 : k = 0 := by omega
      subst hk00
      have hjm : j = -1 := by rw [e1]; omega
      subst hjm
      rw [List.drop_zero] at e2
      clear HH e1
      by_cases hc : (58 : UInt8) ∈ s.data.toList
      · have hRl := rparse_long s.data.toList
        rw [if_pos hc] at hRl
        have hct : c = true := by rw [e2]; exact decide_eq_true hc
        subst hct
        clear e2
        rcases at_le s.data.toList s.data.toList.length 0 (by omega) with ha | ⟨ha0, ha2⟩
        · have ha1 : a = -1 := e3.trans ha
          subst ha1
          have hcut := cutc_none _ ha
          have hsix : rsix s.data.toList = (rgroups true s.data.toList).bind joinG := by rw [rsix, if_pos hcut]
          rw [hsix] at hRl
          have HG : Hid (∀ w : World, Calls Tryz.prog 50 #[.string s, .bool true] w fun e w' => e = .returned (grT (rgroups true s.data.toList)) ∧ Below w.heap.size w w') := fun w => groupsOf_any s true w hs
          clear e3 ha hcut hsix hc
          cases hr : rgroups true s.data.toList with
          | none =>
            rw [hr] at hRl HG
            have HE : Hid (R = none) := by rw [Hid, HR.out, hRl]; rfl
            clear hRl hr HR
            have S0 : Hid (Has3 W0 w.heap.size (.bool false) (.int .u64 0) (.int .u64 0)) ∧ Hid (∀ o, W0.frozen? ⟨w.heap.size, o, none⟩ = false) ∧ Hid (Below w.heap.size w W0) := ⟨P1, F1, HB0⟩
            go_wp2_with fail
            refine (HG.out _).mono ?_
            rintro e w1 ⟨rfl, hb⟩
            have PPw1 : Hid (Has3 w1 w.heap.size (.bool false) (.int .u64 0) (.int .u64 0)) := (S0.1.out).below hb
            have FFw1 : Hid (∀ o, w1.frozen? ⟨w.heap.size, o, none⟩ = false) := fun o => by rw [(bcell hb).2 _ o S0.1.out.2.2.2]; exact S0.2.1.out o
            have BBw1 : Hid (Below w.heap.size w w1) := btr S0.2.2.out hb
            clear hb
            simp only [grT]
            obtain ⟨p0, p1, p2, p3⟩ := PPw1.out
            have f0 := FFw1.out 0
            have f1 := FFw1.out 1
            have f2 := FFw1.out 2
            have HBr : Hid (Below w.heap.size w w1) := BBw1.out
            clear PPw1 FFw1 BBw1
            go_wp2_with fail
            refine bodyPost_ret (v := .tuple #[.agg #[.bool false, .int .u64 0, .int .u64 0], .bool false]) ?_ rfl ⟨by rw [HE.out]; rfl, ?_⟩
            · obtain ⟨a0, a1, a2, _⟩ := Has3.store ⟨p0, p1, p2, p3⟩ (.bool false) (.int .u64 0) (.int .u64 0)
              generalize ((w1.setCell _ _).setCell _ _).setCell _ _ = WW at a0 a1 a2 ⊢
              simp [results, Tryz.results36, go_sem, a0, a1, a2]
            · exact bse (bse (bse HBr.out (Nat.le_refl _) _) (Nat.le_refl _) _) (Nat.le_refl _) _
          | some gs =>
            rw [hr] at hRl HG
            obtain ⟨hglt, hgln⟩ := rgroups_lt hr
            obtain ⟨X, hX⟩ : ∃ X : ByteArray, X = ⟨(gbits gs).toArray⟩ := ⟨_, rfl⟩
            have hXs : X.size = 16 * gs.length := by rw [hX]; show (gbits gs).toArray.size = _; rw [List.size_toArray, gbits_length]
            by_cases h8 : gs.length = 8
            · have HE : Hid (R = some (true, gnum (gs.take 4) 0, gnum (gs.drop 4) 0)) := by rw [Hid, HR.out, hRl]; simp [joinG, h8]
              have HA : Hid (∀ w : World, Calls Tryz.prog 34 #[.string X] w fun e w' => e = .returned (.agg #[.bool true, .int .u64 ((gnum (gs.take 4) 0 : Nat) : Int), .int .u64 ((gnum (gs.drop 4) 0 : Nat) : Int)]) ∧ Below w.heap.size w w') := by
                intro w; rw [hX]; exact addrOf_six gs w h8 hglt
              have h128 : (X.size : Int) = 128 := by omega
              clear hRl hr HR hglt hgln hXs h8
              have S0 : Hid (Has3 W0 w.heap.size (.bool false) (.int .u64 0) (.int .u64 0)) ∧ Hid (∀ o, W0.frozen? ⟨w.heap.size, o, none⟩ = false) ∧ Hid (Below w.heap.size w W0) := ⟨P1, F1, HB0⟩
              go_wp2_with fail
              refine (HG.out _).mono ?_
              rintro e w1 ⟨rfl, hb⟩
              have PPw1 : Hid (Has3 w1 w.heap.size (.bool false) (.int .u64 0) (.int .u64 0)) := (S0.1.out).below hb
              have FFw1 : Hid (∀ o, w1.frozen? ⟨w.heap.size, o, none⟩ = false) := fun o => by rw [(bcell hb).2 _ o S0.1.out.2.2.2]; exact S0.2.1.out o
              have BBw1 : Hid (Below w.heap.size w w1) := btr S0.2.2.out hb
              clear hb
              simp only [grT]
              rw [← hX]
              clear hX
              have Sw1 : Hid (Has3 w1 w.heap.size (.bool false) (.int .u64 0) (.int .u64 0)) ∧ Hid (∀ o, w1.frozen? ⟨w.heap.size, o, none⟩ = false) ∧ Hid (Below w.heap.size w w1) := ⟨PPw1, FFw1, BBw1⟩
              go_wp2_with fail
              refine (HA.out _).mono ?_
              rintro e w2 ⟨rfl, hb⟩
              have PPw2 : Hid (Has3 w2 w.heap.size (.bool false) (.int .u64 0) (.int .u64 0)) := (Sw1.1.out).below hb
              have FFw2 : Hid (∀ o, w2.frozen? ⟨w.heap.size, o, none⟩ = false) := fun o => by rw [(bcell hb).2 _ o Sw1.1.out.2.2.2]; exact Sw1.2.1.out o
              have BBw2 : Hid (Below w.heap.size w w2) := btr Sw1.2.2.out hb
              clear hb
              obtain ⟨p0, p1, p2, p3⟩ := PPw2.out
              have f0 := FFw2.out 0
              have f1 := FFw2.out 1
              have f2 := FFw2.out 2
              have HBr : Hid (Below w.heap.size w w2) := BBw2.out
              clear PPw2 FFw2 BBw2
              go_wp2_with fail
              refine bodyPost_ret (v := .tuple #[.agg #[.bool true, .int .u64 ((gnum (gs.take 4) 0 : Nat) : Int), .int .u64 ((gnum (gs.drop 4) 0 : Nat) : Int)], .bool true]) ?_ rfl ⟨by rw [HE.out]; rfl, ?_⟩
              · obtain ⟨a0, a1, a2, _⟩ := Has3.store ⟨p0, p1, p2, p3⟩ (.bool true) (.int .u64 ((gnum (gs.take 4) 0 : Nat) : Int)) (.int .u64 ((gnum (gs.drop 4) 0 : Nat) : Int))
                generalize ((w2.setCell _ _).setCell _ _).setCell _ _ = WW at a0 a1 a2 ⊢
                simp [results, Tryz.results36, go_sem, a0, a1, a2]
              · exact bse (bse (bse HBr.out (Nat.le_refl _) _) (Nat.le_refl _) _) (Nat.le_refl _) _
            · have HE : Hid (R = none) := by rw [Hid, HR.out, hRl]; simp [joinG, h8]
              have h128 : ¬ (X.size : Int) = 128 := by omega
              have h128b : ((X.size : Int) == 128) = false := by rw [beq_eq_false_iff_ne]; exact h128
              clear hRl hr HR hglt hgln hXs h8
              have S0 : Hid (Has3 W0 w.heap.size (.bool false) (.int .u64 0) (.int .u64 0)) ∧ Hid (∀ o, W0.frozen? ⟨w.heap.size, o, none⟩ = false) ∧ Hid (Below w.heap.size w W0) := ⟨P1, F1, HB0⟩
              go_wp2_with fail
              refine (HG.out _).mono ?_
              rintro e w1 ⟨rfl, hb⟩
              have PPw1 : Hid (Has3 w1 w.heap.size (.bool false) (.int .u64 0) (.int .u64 0)) := (S0.1.out).below hb
              have FFw1 : Hid (∀ o, w1.frozen? ⟨w.heap.size, o, none⟩ = false) := fun o => by rw [(bcell hb).2 _ o S0.1.out.2.2.2]; exact S0.2.1.out o
              have BBw1 : Hid (Below w.heap.size w w1) := btr S0.2.2.out hb
              clear hb
              simp only [grT]
              rw [← hX]
              clear hX
              obtain ⟨p0, p1, p2, p3⟩ := PPw1.out
              have f0 := FFw1.out 0
              have f1 := FFw1.out 1
              have f2 := FFw1.out 2
              have HBr : Hid (Below w.heap.size w w1) := BBw1.out
              clear PPw1 FFw1 BBw1
              go_wp2_with fail
              refine bodyPost_ret (v := .tuple #[.agg #[.bool false, .int .u64 0, .int .u64 0], .bool false]) ?_ rfl ⟨by rw [HE.out]; rfl, ?_⟩
              · obtain ⟨a0, a1, a2, _⟩ := Has3.store ⟨p0, p1, p2, p3⟩ (.bool false) (.int .u64 0) (.int .u64 0)
                generalize ((w1.setCell _ _).setCell _ _).setCell _ _ = WW at a0 a1 a2 ⊢
                simp [results, Tryz.results36, go_sem, a0, a1, a2]
              · exact bse (bse (bse HBr.out (Nat.le_refl _) _) (Nat.le_refl _) _) (Nat.le_refl _) _
        · obtain ⟨p, hp⟩ : ∃ p : Nat, atOf s.data.toList 0 = (p : Int) := ⟨(atOf s.data.toList 0).toNat, by omega⟩
          have ha1 : a = (p : Int) := e3.trans hp
          subst ha1
          have hcut := cutc_some _ p hp
          have hsix : rsix s.data.toList = (rgroups false (s.data.toList.take p)).bind fun a => (rgroups true (s.data.toList.drop (p + 2))).bind fun b => if a.length + b.length ≤ 7 then joinG (a ++ List.replicate (8 - a.length - b.length) 0 ++ b) else none := by
            rw [rsix, hcut]; rfl
          rw [hsix] at hRl
          rw [hp, hl] at ha2
          have hp2 : p + 2 ≤ s.size := by omega
          have hpi : (p : Int) + 2 ≤ (s.size : Int) := by omega
          have hpz : (0 : Int) ≤ (p : Int) := by omega
          have hpn : ¬ (p : Int) < 0 := by omega
          have hs1 : ∀ W : World, (Instr.sliceAt 9 (.string s) none (some (.int .i64 (p : Int))) none).run Tryz.prog W = .ok (.string ⟨(s.data.toList.take p).toArray⟩) W := fun W => str_to s p W (by omega) (by omega)
          have hs2 : ∀ W : World, (Instr.sliceAt 9 (.string s) (some (.int .i64 ((p : Int) + 2))) none none).run Tryz.prog W = .ok (.string ⟨(s.data.toList.drop (p + 2)).toArray⟩) W := fun W => by
            have := str_from s (p + 2) W hp2 (by omega)
            rw [show (((p + 2 : Nat)) : Int) = (p : Int) + 2 by omega] at this; exact this
          have HGA : Hid (∀ w : World, Calls Tryz.prog 50 #[.string ⟨(s.data.toList.take p).toArray⟩, .bool false] w fun e w' => e = .returned (grT (rgroups false (s.data.toList.take p))) ∧ Below w.heap.size w w') := fun w => groupsOf_any _ false w (by show (s.data.toList.take p).toArray.size ≤ _; rw [List.size_toArray, List.length_take]; omega)
          have HGB : Hid (∀ w : World, Calls Tryz.prog 50 #[.string ⟨(s.data.toList.drop (p + 2)).toArray⟩, .bool true] w fun e w' => e = .returned (grT (rgroups true (s.data.toList.drop (p + 2)))) ∧ Below w.heap.size w w') := fun w => groupsOf_any _ true w (by show (s.data.toList.drop (p + 2)).toArray.size ≤ _; rw [List.size_toArray, List.length_drop]; omega)
          clear e3 hp hcut hsix hc ha0 ha2
          cases hra : rgroups false (s.data.toList.take p) with
          | none =>
            rw [hra] at hRl HGA
            have HE : Hid (R = none) := by rw [Hid, HR.out, hRl]; rfl
            clear hRl hra HR
            cases hrb : rgroups true (s.data.toList.drop (p + 2)) with
            | none =>
              rw [hrb] at HGB
              clear hrb
              have S0 : Hid (Has3 W0 w.heap.size (.bool false) (.int .u64 0) (.int .u64 0)) ∧ Hid (∀ o, W0.frozen? ⟨w.heap.size, o, none⟩ = false) ∧ Hid (Below w.heap.size w W0) := ⟨P1, F1, HB0⟩
              go_wp2_with fail
              refine (HGA.out _).mono ?_
              rintro e w1 ⟨rfl, hb⟩
              have PPw1 : Hid (Has3 w1 w.heap.size (.bool false) (.int .u64 0) (.int .u64 0)) := (S0.1.out).below hb
              have FFw1 : Hid (∀ o, w1.frozen? ⟨w.heap.size, o, none⟩ = false) := fun o => by rw [(bcell hb).2 _ o S0.1.out.2.2.2]; exact S0.2.1.out o
              have BBw1 : Hid (Below w.heap.size w w1) := btr S0.2.2.out hb
              clear hb
              simp only [grT]
              have Sw1 : Hid (Has3 w1 w.heap.size (.bool false) (.int .u64 0) (.int .u64 0)) ∧ Hid (∀ o, w1.frozen? ⟨w.heap.size, o, none⟩ = false) ∧ Hid (Below w.heap.size w w1) := ⟨PPw1, FFw1, BBw1⟩
              go_wp2_with fail
              refine (HGB.out _).mono ?_
              rintro e w2 ⟨rfl, hb⟩
              have PPw2 : Hid (Has3 w2 w.heap.size (.bool false) (.int .u64 0) (.int .u64 0)) := (Sw1.1.out).below hb
              have FFw2 : Hid (∀ o, w2.frozen? ⟨w.heap.size, o, none⟩ = false) := fun o => by rw [(bcell hb).2 _ o Sw1.1.out.2.2.2]; exact Sw1.2.1.out o
              have BBw2 : Hid (Below w.heap.size w w2) := btr Sw1.2.2.out hb
              clear hb
              simp only [grT]
              obtain ⟨p0, p1, p2, p3⟩ := PPw2.out
              have f0 := FFw2.out 0
              have f1 := FFw2.out 1
              have f2 := FFw2.out 2
              have HBr : Hid (Below w.heap.size w w2) := BBw2.out
              clear PPw2 FFw2 BBw2
              go_wp2_with fail
              refine bodyPost_ret (v := .tuple #[.agg #[.bool false, .int .u64 0, .int .u64 0], .bool false]) ?_ rfl ⟨by rw [HE.out]; rfl, ?_⟩
              · obtain ⟨a0, a1, a2, _⟩ := Has3.store ⟨p0, p1, p2, p3⟩ (.bool false) (.int .u64 0) (.int .u64 0)
                generalize ((w2.setCell _ _).setCell _ _).setCell _ _ = WW at a0 a1 a2 ⊢
                simp [results, Tryz.results36, go_sem, a0, a1, a2]
              · exact bse (bse (bse HBr.out (Nat.le_refl _) _) (Nat.le_refl _) _) (Nat.le_refl _) _
            | some gb =>
              rw [hrb] at HGB
              clear hrb
              have S0 : Hid (Has3 W0 w.heap.size (.bool false) (.int .u64 0) (.int .u64 0)) ∧ Hid (∀ o, W0.frozen? ⟨w.heap.size, o, none⟩ = false) ∧ Hid (Below w.heap.size w W0) := ⟨P1, F1, HB0⟩
              go_wp2_with fail
              refine (HGA.out _).mono ?_
              rintro e w1 ⟨rfl, hb⟩
              have PPw1 : Hid (Has3 w1 w.heap.size (.bool false) (.int .u64 0) (.int .u64 0)) := (S0.1.out).below hb
              have FFw1 : Hid (∀ o, w1.frozen? ⟨w.heap.size, o, none⟩ = false) := fun o => by rw [(bcell hb).2 _ o S0.1.out.2.2.2]; exact S0.2.1.out o
              have BBw1 : Hid (Below w.heap.size w w1) := btr S0.2.2.out hb
              clear hb
              simp only [grT]
              have Sw1 : Hid (Has3 w1 w.heap.size (.bool false) (.int .u64 0) (.int .u64 0)) ∧ Hid (∀ o, w1.frozen? ⟨w.heap.size, o, none⟩ = false) ∧ Hid (Below w.heap.size w w1) := ⟨PPw1, FFw1, BBw1⟩
              go_wp2_with fail
              refine (HGB.out _).mono ?_
              rintro e w2 ⟨rfl, hb⟩
              have PPw2 : Hid (Has3 w2 w.heap.size (.bool false) (.int .u64 0) (.int .u64 0)) := (Sw1.1.out).below hb
              have FFw2 : Hid (∀ o, w2.frozen? ⟨w.heap.size, o, none⟩ = false) := fun o => by rw [(bcell hb).2 _ o Sw1.1.out.2.2.2]; exact Sw1.2.1.out o
              have BBw2 : Hid (Below w.heap.size w w2) := btr Sw1.2.2.out hb
              clear hb
              simp only [grT]
              obtain ⟨p0, p1, p2, p3⟩ := PPw2.out
              have f0 := FFw2.out 0
              have f1 := FFw2.out 1
              have f2 := FFw2.out 2
              have HBr : Hid (Below w.heap.size w w2) := BBw2.out
              clear PPw2 FFw2 BBw2
              go_wp2_with fail
              refine bodyPost_ret (v := .tuple #[.agg #[.bool false, .int .u64 0, .int .u64 0], .bool false]) ?_ rfl ⟨by rw [HE.out]; rfl, ?_⟩
              · obtain ⟨a0, a1, a2, _⟩ := Has3.store ⟨p0, p1, p2, p3⟩ (.bool false) (.int .u64 0) (.int .u64 0)
                generalize ((w2.setCell _ _).setCell _ _).setCell _ _ = WW at a0 a1 a2 ⊢
                simp [results, Tryz.results36, go_sem, a0, a1, a2]
              · exact bse (bse (bse HBr.out (Nat.le_refl _) _) (Nat.le_refl _) _) (Nat.le_refl _) _
          | some ga =>
            rw [hra] at hRl HGA
            cases hrb : rgroups true (s.data.toList.drop (p + 2)) with
            | none =>
              rw [hrb] at hRl HGB
              have HE : Hid (R = none) := by rw [Hid, HR.out, hRl]; rfl
              clear hRl hrb hra HR
              have S0 : Hid (Has3 W0 w.heap.size (.bool false) (.int .u64 0) (.int .u64 0)) ∧ Hid (∀ o, W0.frozen? ⟨w.heap.size, o, none⟩ = false) ∧ Hid (Below w.heap.size w W0) := ⟨P1, F1, HB0⟩
              go_wp2_with fail
              refine (HGA.out _).mono ?_
              rintro e w1 ⟨rfl, hb⟩
              have PPw1 : Hid (Has3 w1 w.heap.size (.bool false) (.int .u64 0) (.int .u64 0)) := (S0.1.out).below hb
              have FFw1 : Hid (∀ o, w1.frozen? ⟨w.heap.size, o, none⟩ = false) := fun o => by rw [(bcell hb).2 _ o S0.1.out.2.2.2]; exact S0.2.1.out o
              have BBw1 : Hid (Below w.heap.size w w1) := btr S0.2.2.out hb
              clear hb
              simp only [grT]
              have Sw1 : Hid (Has3 w1 w.heap.size (.bool false) (.int .u64 0) (.int .u64 0)) ∧ Hid (∀ o, w1.frozen? ⟨w.heap.size, o, none⟩ = false) ∧ Hid (Below w.heap.size w w1) := ⟨PPw1, FFw1, BBw1⟩
              go_wp2_with fail
              refine (HGB.out _).mono ?_
              rintro e w2 ⟨rfl, hb⟩
              have PPw2 : Hid (Has3 w2 w.heap.size (.bool false) (.int .u64 0) (.int .u64 0)) := (Sw1.1.out).below hb
              have FFw2 : Hid (∀ o, w2.frozen? ⟨w.heap.size, o, none⟩ = false) := fun o => by rw [(bcell hb).2 _ o Sw1.1.out.2.2.2]; exact Sw1.2.1.out o
              have BBw2 : Hid (Below w.heap.size w w2) := btr Sw1.2.2.out hb
              clear hb
              simp only [grT]
              obtain ⟨p0, p1, p2, p3⟩ := PPw2.out
              have f0 := FFw2.out 0
              have f1 := FFw2.out 1
              have f2 := FFw2.out 2
              have HBr : Hid (Below w.heap.size w w2) := BBw2.out
              clear PPw2 FFw2 BBw2
              go_wp2_with fail
              refine bodyPost_ret (v := .tuple #[.agg #[.bool false, .int .u64 0, .int .u64 0], .bool false]) ?_ rfl ⟨by rw [HE.out]; rfl, ?_⟩
              · obtain ⟨a0, a1, a2, _⟩ := Has3.store ⟨p0, p1, p2, p3⟩ (.bool false) (.int .u64 0) (.int .u64 0)
                generalize ((w2.setCell _ _).setCell _ _).setCell _ _ = WW at a0 a1 a2 ⊢
                simp [results, Tryz.results36, go_sem, a0, a1, a2]
              · exact bse (bse (bse HBr.out (Nat.le_refl _) _) (Nat.le_refl _) _) (Nat.le_refl _) _
            | some gb =>
              rw [hrb] at hRl HGB
              obtain ⟨hla, hna⟩ := rgroups_lt hra
              obtain ⟨hlb, hnb⟩ := rgroups_lt hrb
              rw [List.length_take] at hna
              rw [List.length_drop] at hnb
              obtain ⟨XA, hXA⟩ : ∃ X : ByteArray, X = ⟨(gbits ga).toArray⟩ := ⟨_, rfl⟩
              have hXAs : XA.size = 16 * ga.length := by rw [hXA]; show (gbits ga).toArray.size = _; rw [List.size_toArray, gbits_length]
              obtain ⟨XB, hXB⟩ : ∃ X : ByteArray, X = ⟨(gbits gb).toArray⟩ := ⟨_, rfl⟩
              have hXBs : XB.size = 16 * gb.length := by rw [hXB]; show (gbits gb).toArray.size = _; rw [List.size_toArray, gbits_length]
              have hXa0 : (XA.size : Int) ≤ 100000000 := by omega
              have hXb0 : (XB.size : Int) ≤ 100000000 := by omega
              by_cases h7 : ga.length + gb.length ≤ 7
              · have h112 : ¬ 112 < (XA.size : Int) + (XB.size : Int) := by omega
                have h112b : decide (112 < (XA.size : Int) + (XB.size : Int)) = false := decide_eq_false h112
                obtain ⟨gs, hgs⟩ : ∃ gs, gs = ga ++ List.replicate (8 - ga.length - gb.length) 0 ++ gb := ⟨_, rfl⟩
                have h8 : gs.length = 8 := by rw [hgs]; simp; omega
                have hglt : ∀ x ∈ gs, x < 65536 := by
                  intro x hx
                  rw [hgs] at hx
                  rcases List.mem_append.1 hx with hx | hx
                  · rcases List.mem_append.1 hx with hx | hx
                    · exact hla x hx
                    · have := (List.mem_replicate.1 hx).2; omega
                  · exact hlb x hx
                have HE : Hid (R = some (true, gnum (gs.take 4) 0, gnum (gs.drop 4) 0)) := by
                  rw [Hid, HR.out, hRl]
                  show ((if ga.length + gb.length ≤ 7 then joinG (ga ++ List.replicate (8 - ga.length - gb.length) 0 ++ gb) else none).map _) = _
                  rw [if_pos h7, ← hgs, joinG, if_pos h8]; rfl
                obtain ⟨X, hX⟩ : ∃ X : ByteArray, X = ⟨(gbits gs).toArray⟩ := ⟨_, rfl⟩
                have hXs : (X.size : Int) = 128 := by
                  rw [hX]; show (((gbits gs).toArray.size : Nat) : Int) = 128; rw [List.size_toArray, gbits_length, h8]; rfl
                have HA : Hid (∀ w : World, Calls Tryz.prog 34 #[.string X] w fun e w' => e = .returned (.agg #[.bool true, .int .u64 ((gnum (gs.take 4) 0 : Nat) : Int), .int .u64 ((gnum (gs.drop 4) 0 : Nat) : Int)]) ∧ Below w.heap.size w w') := by
                  intro w; rw [hX]; exact addrOf_six gs w h8 hglt
                have HXX : Hid (∀ W : World, (Op.stringOp .add ⟨(gbits ga ++ List.replicate (128 - 16 * ga.length - 16 * gb.length) 48).toArray⟩ XB).run Tryz.prog W = .ok (.string X) W) := by
                  intro W
                  rw [hX, hXB, hgs, gbits_append, gbits_append, gbits_zero, show 16 * (8 - ga.length - gb.length) = 128 - 16 * ga.length - 16 * gb.length by omega]
                  exact add_lists _ _ W (by simp [gbits_length]; omega)
                clear hRl hra hrb HR hla hlb hna hnb hgs hX hglt h8
                have S0 : Hid (Has3 W0 w.heap.size (.bool false) (.int .u64 0) (.int .u64 0)) ∧ Hid (∀ o, W0.frozen? ⟨w.heap.size, o, none⟩ = false) ∧ Hid (Below w.heap.size w W0) := ⟨P1, F1, HB0⟩
                go_wp2_with fail
                refine (HGA.out _).mono ?_
                rintro e w1 ⟨rfl, hb⟩
                have PPw1 : Hid (Has3 w1 w.heap.size (.bool false) (.int .u64 0) (.int .u64 0)) := (S0.1.out).below hb
                have FFw1 : Hid (∀ o, w1.frozen? ⟨w.heap.size, o, none⟩ = false) := fun o => by rw [(bcell hb).2 _ o S0.1.out.2.2.2]; exact S0.2.1.out o
                have BBw1 : Hid (Below w.heap.size w w1) := btr S0.2.2.out hb
                clear hb
                simp only [grT]
                have Sw1 : Hid (Has3 w1 w.heap.size (.bool false) (.int .u64 0) (.int .u64 0)) ∧ Hid (∀ o, w1.frozen? ⟨w.heap.size, o, none⟩ = false) ∧ Hid (Below w.heap.size w w1) := ⟨PPw1, FFw1, BBw1⟩
                go_wp2_with fail
                refine (HGB.out _).mono ?_
                rintro e w2 ⟨rfl, hb⟩
                have PPw2 : Hid (Has3 w2 w.heap.size (.bool false) (.int .u64 0) (.int .u64 0)) := (Sw1.1.out).below hb
                have FFw2 : Hid (∀ o, w2.frozen? ⟨w.heap.size, o, none⟩ = false) := fun o => by rw [(bcell hb).2 _ o Sw1.1.out.2.2.2]; exact Sw1.2.1.out o
                have BBw2 : Hid (Below w.heap.size w w2) := btr Sw1.2.2.out hb
                clear hb
                simp only [grT]
                rw [← hXA, ← hXB]
                have Sw2 : Hid (Has3 w2 w.heap.size (.bool false) (.int .u64 0) (.int .u64 0)) ∧ Hid (∀ o, w2.frozen? ⟨w.heap.size, o, none⟩ = false) ∧ Hid (Below w.heap.size w w2) := ⟨PPw2, FFw2, BBw2⟩
                have HXA : Hid (XA = ⟨(gbits ga).toArray⟩) := hXA
                clear hXA hXB
                have HSZ : Hid (XA.size = 16 * ga.length ∧ XB.size = 16 * gb.length) := ⟨hXAs, hXBs⟩
                clear hXAs hXBs
                go_wp2_with fail
                go_loop [12] (fun va => ∃ (j : Nat) (Y : ByteArray), va = .string Y ∧ (Y.size : Int) ≤ 128 ∧ Hid (Y = ⟨(gbits ga ++ List.replicate j 48).toArray⟩ ∧ Y.size = 16 * ga.length + j ∧ 16 * ga.length + 16 * gb.length + j ≤ 128))
                  (fun va => 128 - strLen va)
                case atStart => exact ⟨0, XA, rfl, by have := HSZ.out; omega, by rw [HXA.out]; simp, by rw [HSZ.out.1]; rfl, by omega⟩
                case round =>
                  obtain ⟨j, Y, rfl, hY8, hYY⟩ := hrel
                  obtain ⟨y1, y2, y3⟩ := hYY.out
                  obtain ⟨z1, z2⟩ := HSZ.out
                  by_cases hlt : Y.size + XB.size < 128
                  · have hlti : (Y.size : Int) + (XB.size : Int) < 128 := by omega
                    have hp1 : ∀ W : World, (Op.stringOp .add Y ⟨#[48]⟩).run Tryz.prog W = .ok (.string ⟨(gbits ga ++ List.replicate (j + 1) 48).toArray⟩) W := by
                      intro W
                      rw [y1, List.replicate_succ', ← List.append_assoc]
                      exact add_lists _ [48] W (by simp [gbits_length]; omega)
                    have HZ : Hid ((⟨(gbits ga ++ List.replicate (j + 1) 48).toArray⟩ : ByteArray).size = 16 * ga.length + (j + 1)) := by
                      show (gbits ga ++ List.replicate (j + 1) 48).toArray.size = _
                      rw [List.size_toArray, List.length_append, gbits_length, List.length_replicate]
                    have HY : Hid (Y.size = 16 * ga.length + j ∧ XB.size = 16 * gb.length) := ⟨y2, z2⟩
                    clear y1 y2 y3 z1 z2 hYY
                    go_wp2_with fail
                    obtain ⟨y2, z2⟩ := HY.out
                    have hZ := HZ.out
                    exact ⟨⟨j + 1, _, rfl, by omega, rfl, hZ, by omega⟩, by simp only [strLen]; omega⟩
                  · have hlti : ¬ (Y.size : Int) + (XB.size : Int) < 128 := by omega
                    have hp1 := HXX.out
                    rw [show 128 - 16 * ga.length - 16 * gb.length = j by omega, ← y1] at hp1
                    clear y1 y2 y3 z1 z2 hYY HXX
                    go_wp2_with fail
                    refine (HA.out _).mono ?_
                    rintro e w3 ⟨rfl, hb⟩
                    have PPw3 : Hid (Has3 w3 w.heap.size (.bool false) (.int .u64 0) (.int .u64 0)) := (Sw2.1.out).below hb
                    have FFw3 : Hid (∀ o, w3.frozen? ⟨w.heap.size, o, none⟩ = false) := fun o => by rw [(bcell hb).2 _ o Sw2.1.out.2.2.2]; exact Sw2.2.1.out o
                    have BBw3 : Hid (Below w.heap.size w w3) := btr Sw2.2.2.out hb
                    clear hb
                    obtain ⟨p0, p1, p2, p3⟩ := PPw3.out
                    have f0 := FFw3.out 0
                    have f1 := FFw3.out 1
                    have f2 := FFw3.out 2
                    have HBr : Hid (Below w.heap.size w w3) := BBw3.out
                    clear PPw3 FFw3 BBw3
                    go_wp2_with fail
                    refine bodyPost_ret (v := .tuple #[.agg #[.bool true, .int .u64 ((gnum (gs.take 4) 0 : Nat) : Int), .int .u64 ((gnum (gs.drop 4) 0 : Nat) : Int)], .bool true]) ?_ rfl ⟨by rw [HE.out]; rfl, ?_⟩
                    · obtain ⟨a0, a1, a2, _⟩ := Has3.store ⟨p0, p1, p2, p3⟩ (.bool true) (.int .u64 ((gnum (gs.take 4) 0 : Nat) : Int)) (.int .u64 ((gnum (gs.drop 4) 0 : Nat) : Int))
                      generalize ((w3.setCell _ _).setCell _ _).setCell _ _ = WW at a0 a1 a2 ⊢
                      simp [results, Tryz.results36, go_sem, a0, a1, a2]
                    · exact bse (bse (bse HBr.out (Nat.le_refl _) _) (Nat.le_refl _) _) (Nat.le_refl _) _
              · have h112 : 112 < (XA.size : Int) + (XB.size : Int) := by omega
                have h112b : decide (112 < (XA.size : Int) + (XB.size : Int)) = true := decide_eq_true h112
                have HE : Hid (R = none) := by rw [Hid, HR.out, hRl]; simp [h7]
                clear hRl hra hrb HR hla hlb hna hnb
                have S0 : Hid (Has3 W0 w.heap.size (.bool false) (.int .u64 0) (.int .u64 0)) ∧ Hid (∀ o, W0.frozen? ⟨w.heap.size, o, none⟩ = false) ∧ Hid (Below w.heap.size w W0) := ⟨P1, F1, HB0⟩
                go_wp2_with fail
                refine (HGA.out _).mono ?_
                rintro e w1 ⟨rfl, hb⟩
                have PPw1 : Hid (Has3 w1 w.heap.size (.bool false) (.int .u64 0) (.int .u64 0)) := (S0.1.out).below hb
                have FFw1 : Hid (∀ o, w1.frozen? ⟨w.heap.size, o, none⟩ = false) := fun o => by rw [(bcell hb).2 _ o S0.1.out.2.2.2]; exact S0.2.1.out o
                have BBw1 : Hid (Below w.heap.size w w1) := btr S0.2.2.out hb
                clear hb
                simp only [grT]
                have Sw1 : Hid (Has3 w1 w.heap.size (.bool false) (.int .u64 0) (.int .u64 0)) ∧ Hid (∀ o, w1.frozen? ⟨w.heap.size, o, none⟩ = false) ∧ Hid (Below w.heap.size w w1) := ⟨PPw1, FFw1, BBw1⟩
                go_wp2_with fail
                refine (HGB.out _).mono ?_
                rintro e w2 ⟨rfl, hb⟩
                have PPw2 : Hid (Has3 w2 w.heap.size (.bool false) (.int .u64 0) (.int .u64 0)) := (Sw1.1.out).below hb
                have FFw2 : Hid (∀ o, w2.frozen? ⟨w.heap.size, o, none⟩ = false) := fun o => by rw [(bcell hb).2 _ o Sw1.1.out.2.2.2]; exact Sw1.2.1.out o
                have BBw2 : Hid (Below w.heap.size w w2) := btr Sw1.2.2.out hb
                clear hb
                simp only [grT]
                rw [← hXA, ← hXB]
                clear hXA hXB
                obtain ⟨p0, p1, p2, p3⟩ := PPw2.out
                have f0 := FFw2.out 0
                have f1 := FFw2.out 1
                have f2 := FFw2.out 2
                have HBr : Hid (Below w.heap.size w w2) := BBw2.out
                clear PPw2 FFw2 BBw2
                go_wp2_with fail
                refine bodyPost_ret (v := .tuple #[.agg #[.bool false, .int .u64 0, .int .u64 0], .bool false]) ?_ rfl ⟨by rw [HE.out]; rfl, ?_⟩
                · obtain ⟨a0, a1, a2, _⟩ := Has3.store ⟨p0, p1, p2, p3⟩ (.bool false) (.int .u64 0) (.int .u64 0)
                  generalize ((w2.setCell _ _).setCell _ _).setCell _ _ = WW at a0 a1 a2 ⊢
                  simp [results, Tryz.results36, go_sem, a0, a1, a2]
                · exact bse (bse (bse HBr.out (Nat.le_refl _) _) (Nat.le_refl _) _) (Nat.le_refl _) _
      · have hRl := rparse_long s.data.toList
        rw [if_neg hc] at hRl
        have hct : c = false := by rw [e2]; exact decide_eq_false hc
        subst hct
        have HF : Hid (∀ w : World, Calls Tryz.prog 49 #[.string s] w fun e w' => e = .returned (bitT 32 (rfour s.data.toList)) ∧ Below w.heap.size w w') := fun w => fourOf_any s w hs
        clear e2 e3 hc
        cases hr : rfour s.data.toList with
        | none =>
          rw [hr] at hRl HF
          have HE : Hid (R = none) := by rw [Hid, HR.out, hRl]; rfl
          clear hRl hr HR
          have S0 : Hid (Has3 W0 w.heap.size (.bool false) (.int .u64 0) (.int .u64 0)) ∧ Hid (∀ o, W0.frozen? ⟨w.heap.size, o, none⟩ = false) ∧ Hid (Below w.heap.size w W0) := ⟨P1, F1, HB0⟩
          go_wp2_with fail
          refine (HF.out _).mono ?_
          rintro e w1 ⟨rfl, hb⟩
          have PPw1 : Hid (Has3 w1 w.heap.size (.bool false) (.int .u64 0) (.int .u64 0)) := (S0.1.out).below hb
          have FFw1 : Hid (∀ o, w1.frozen? ⟨w.heap.size, o, none⟩ = false) := fun o => by rw [(bcell hb).2 _ o S0.1.out.2.2.2]; exact S0.2.1.out o
          have BBw1 : Hid (Below w.heap.size w w1) := btr S0.2.2.out hb
          clear hb
          simp only [bitT]
          obtain ⟨p0, p1, p2, p3⟩ := PPw1.out
          have f0 := FFw1.out 0
          have f1 := FFw1.out 1
          have f2 := FFw1.out 2
          have HBr : Hid (Below w.heap.size w w1) := BBw1.out
          clear PPw1 FFw1 BBw1
          go_wp2_with fail
          refine bodyPost_ret (v := .tuple #[.agg #[.bool false, .int .u64 0, .int .u64 0], .bool false]) ?_ rfl ⟨by rw [HE.out]; rfl, ?_⟩
          · obtain ⟨a0, a1, a2, _⟩ := Has3.store ⟨p0, p1, p2, p3⟩ (.bool false) (.int .u64 0) (.int .u64 0)
            generalize ((w1.setCell _ _).setCell _ _).setCell _ _ = WW at a0 a1 a2 ⊢
            simp [results, Tryz.results36, go_sem, a0, a1, a2]
          · exact bse (bse (bse HBr.out (Nat.le_refl _) _) (Nat.le_refl _) _) (Nat.le_refl _) _
        | some n =>
          rw [hr] at hRl HF
          have hn := rfour_lt hr
          have HE : Hid (R = some (false, 0, n)) := by rw [Hid, HR.out, hRl]; rfl
          have HA : Hid (∀ w : World, Calls Tryz.prog 34 #[.string ⟨(bin 32 n).toArray⟩] w fun e w' => e = .returned (.agg #[.bool false, .int .u64 0, .int .u64 (n : Int)]) ∧ Below w.heap.size w w') := fun w => addrOf_four n w hn
          clear hRl hr HR
          have S0 : Hid (Has3 W0 w.heap.size (.bool false) (.int .u64 0) (.int .u64 0)) ∧ Hid (∀ o, W0.frozen? ⟨w.heap.size, o, none⟩ = false) ∧ Hid (Below w.heap.size w W0) := ⟨P1, F1, HB0⟩
          go_wp2_with fail
          refine (HF.out _).mono ?_
          rintro e w1 ⟨rfl, hb⟩
          have PPw1 : Hid (Has3 w1 w.heap.size (.bool false) (.int .u64 0) (.int .u64 0)) := (S0.1.out).below hb
          have FFw1 : Hid (∀ o, w1.frozen? ⟨w.heap.size, o, none⟩ = false) := fun o => by rw [(bcell hb).2 _ o S0.1.out.2.2.2]; exact S0.2.1.out o
          have BBw1 : Hid (Below w.heap.size w w1) := btr S0.2.2.out hb
          clear hb
          simp only [bitT]
          have Sw1 : Hid (Has3 w1 w.heap.size (.bool false) (.int .u64 0) (.int .u64 0)) ∧ Hid (∀ o, w1.frozen? ⟨w.heap.size, o, none⟩ = false) ∧ Hid (Below w.heap.size w w1) := ⟨PPw1, FFw1, BBw1⟩
          go_wp2_with fail
          refine (HA.out _).mono ?_
          rintro e w2 ⟨rfl, hb⟩
          have PPw2 : Hid (Has3 w2 w.heap.size (.bool false) (.int .u64 0) (.int .u64 0)) := (Sw1.1.out).below hb
          have FFw2 : Hid (∀ o, w2.frozen? ⟨w.heap.size, o, none⟩ = false) := fun o => by rw [(bcell hb).2 _ o Sw1.1.out.2.2.2]; exact Sw1.2.1.out o
          have BBw2 : Hid (Below w.heap.size w w2) := btr Sw1.2.2.out hb
          clear hb
          obtain ⟨p0, p1, p2, p3⟩ := PPw2.out
          have f0 := FFw2.out 0
          have f1 := FFw2.out 1
          have f2 := FFw2.out 2
          have HBr : Hid (Below w.heap.size w w2) := BBw2.out
          clear PPw2 FFw2 BBw2
          go_wp2_with fail
          refine bodyPost_ret (v := .tuple #[.agg #[.bool false, .int .u64 0, .int .u64 (n : Int)], .bool true]) ?_ rfl ⟨by rw [HE.out]; rfl, ?_⟩
          · obtain ⟨a0, a1, a2, _⟩ := Has3.store ⟨p0, p1, p2, p3⟩ (.bool false) (.int .u64 0) (.int .u64 (n : Int))
            generalize ((w2.setCell _ _).setCell _ _).setCell _ _ = WW at a0 a1 a2 ⊢
            simp [results, Tryz.results36, go_sem, a0, a1, a2]
          · exact bse (bse (bse HBr.out (Nat.le_refl _) _) (Nat.le_refl _) _) (Nat.le_refl _) _
end Go.Proofs.YtollaiabcnmebaaGreatDoor

namespace Go.Proofs.YtollaiabcnmebaaGreatDoor
open Go.RowKit

/-- Bits that are few enough for a number. -/
def FewBits (x : ByteArray) : Prop := x.size ≤ 16 ∧ IsBin x.data.toList
/-- The number of bits. -/
def nv (x : ByteArray) : Nat := vbin 0 x.data.toList
theorem nv_lt (x : ByteArray) (h : FewBits x) : nv x < 65536 := by
  have h1 := vbin_lt0 x.data.toList
  have h2 : 2 ^ x.data.toList.length ≤ 2 ^ 16 := Nat.pow_le_pow_right (by decide) (by rw [size_list]; exact h.1)
  unfold nv; omega
theorem few_bin (k n : Nat) (h : k ≤ 16) : FewBits ⟨(bin k n).toArray⟩ := ⟨by show (bin k n).toArray.size ≤ 16; rw [List.size_toArray, bin_length]; exact h, bin_isBin k n⟩
theorem nv_bin (k n : Nat) : nv ⟨(bin k n).toArray⟩ = n % 2 ^ k := by
  show vbin 0 (bin k n) = _
  rw [vbin_bin]; simp

/-- A piece of the bits. -/
theorem bits_slice (v : Bool) (hi lo i j : Nat) (W : World) (h1 : i ≤ j) (h2 : j ≤ (bitsT v hi lo).length) :
    (Instr.sliceAt 9 (.string ⟨(bitsT v hi lo).toArray⟩) (some (.int .i64 (i : Int))) (some (.int .i64 (j : Int))) none).run Tryz.prog W = .ok (.string ⟨(((bitsT v hi lo).drop i).take (j - i)).toArray⟩) W := by
  have hz : (⟨(bitsT v hi lo).toArray⟩ : ByteArray).size = (bitsT v hi lo).length := by show (bitsT v hi lo).toArray.size = _; rw [List.size_toArray]
  have hb := bitsT_length v hi lo
  exact str_slice ⟨(bitsT v hi lo).toArray⟩ i j W h1 (by omega) (by rw [hz]; split at hb <;> omega)

set_option maxHeartbeats 16000000 in
set_option maxRecDepth 100000 in
theorem textOf4_any (hi lo : Nat) (w : World) (h1 : hi < 18446744073709551616) (l1 : lo ≤ 4294967295) :
    Calls Tryz.prog 31 #[.agg #[.bool false, .int .u64 hi, .int .u64 lo]] w fun e w' => e = .returned (.string ⟨(Lib.join (four lo) [46]).toArray⟩) ∧ Below w.heap.size w w' := by
  have HX : Hid (∀ w : World, Calls Tryz.prog 13 #[.agg #[.bool false, .int .u64 hi, .int .u64 lo]] w fun e w' => e = .returned (.string ⟨(bitsT false hi lo).toArray⟩) ∧ Below w.heap.size w w') := fun w => bits_any false hi lo w h1 (by omega)
  have HN : Hid (∀ (x : ByteArray) (w : World), FewBits x → Calls Tryz.prog 48 #[.string x] w fun e w' => e = .returned (.int .i64 (nv x : Int)) ∧ w' = w) := fun x w h => numberOf_any x w (by have := h.1; omega) h.2
  have HD : Hid (∀ (n : Nat) (w : World), n < 65536 → Calls Tryz.prog 32 #[.int .i64 (n : Int), .int .i64 10] w fun e w' => e = .returned (.string ⟨(digs 10 n).toArray⟩) ∧ Below w.heap.size w w') := fun n w h => digits_any 10 (by decide) (by decide) n (by omega) w
  have HB0 : Hid (Below w.heap.size w (w.alloc (.cells #[.bool false, .int .u64 hi, .int .u64 lo] 24))) := bal (Below.refl _ _) _
  have hbt : bitsT false hi lo = bin 32 lo := rfl
  obtain ⟨XX, hXX⟩ : ∃ X : ByteArray, X = ⟨(bitsT false hi lo).toArray⟩ := ⟨_, rfl⟩
  rw [← hXX] at HX
  have hXz : XX.size = 32 := by rw [hXX]; show (bitsT false hi lo).toArray.size = 32; rw [List.size_toArray, hbt, bin_length]
  have hXl : XX.data.toList = bin 32 lo := by rw [hXX]; rfl
  obtain ⟨X1, e1⟩ : ∃ X : ByteArray, X = ⟨(bin 8 (lo / 2 ^ 24)).toArray⟩ := ⟨_, rfl⟩
  obtain ⟨X2, e2⟩ : ∃ X : ByteArray, X = ⟨(bin 8 (lo / 2 ^ 16)).toArray⟩ := ⟨_, rfl⟩
  obtain ⟨X3, e3⟩ : ∃ X : ByteArray, X = ⟨(bin 8 (lo / 2 ^ 8)).toArray⟩ := ⟨_, rfl⟩
  obtain ⟨X4, e4⟩ : ∃ X : ByteArray, X = ⟨(bin 8 (lo / 2 ^ 0)).toArray⟩ := ⟨_, rfl⟩
  have b1 := bin_sub 0 8 24 lo
  have b2 := bin_sub 8 8 16 lo
  have b3 := bin_sub 16 8 8 lo
  have b4 := bin_sub 24 8 0 lo
  have s1 : ∀ W : World, (Instr.sliceAt 9 (.string XX) none (some (.int .i64 8)) none).run Tryz.prog W = .ok (.string X1) W := fun W => by
    have := str_to XX 8 W (by omega) (by omega); rw [hXl] at this; rw [e1, ← b1]; exact this
  have s2 : ∀ W : World, (Instr.sliceAt 9 (.string XX) (some (.int .i64 8)) (some (.int .i64 16)) none).run Tryz.prog W = .ok (.string X2) W := fun W => by
    have := str_slice XX 8 16 W (by omega) (by omega) (by omega); rw [hXl] at this; rw [e2, ← b2]; exact this
  have s3 : ∀ W : World, (Instr.sliceAt 9 (.string XX) (some (.int .i64 16)) (some (.int .i64 24)) none).run Tryz.prog W = .ok (.string X3) W := fun W => by
    have := str_slice XX 16 24 W (by omega) (by omega) (by omega); rw [hXl] at this; rw [e3, ← b3]; exact this
  have s4 : ∀ W : World, (Instr.sliceAt 9 (.string XX) (some (.int .i64 24)) none none).run Tryz.prog W = .ok (.string X4) W := fun W => by
    have := str_from XX 24 W (by omega) (by omega); rw [hXl] at this
    rw [e4, ← b4, List.take_of_length_le (by rw [List.length_drop, bin_length]; omega)]; exact this
  have f1 : FewBits X1 := by rw [e1]; exact few_bin _ _ (by decide)
  have f2 : FewBits X2 := by rw [e2]; exact few_bin _ _ (by decide)
  have f3 : FewBits X3 := by rw [e3]; exact few_bin _ _ (by decide)
  have f4 : FewBits X4 := by rw [e4]; exact few_bin _ _ (by decide)
  have n1 : nv X1 = lo / 16777216 % 256 := by rw [e1, nv_bin]
  have n2 : nv X2 = lo / 65536 % 256 := by rw [e2, nv_bin]
  have n3 : nv X3 = lo / 256 % 256 := by rw [e3, nv_bin]
  have n4 : nv X4 = lo % 256 := by rw [e4, nv_bin, Nat.pow_zero, Nat.div_one]
  have t1 := nv_lt X1 f1
  have t2 := nv_lt X2 f2
  have t3 := nv_lt X3 f3
  have t4 := nv_lt X4 f4
  have g1 : digs 10 (nv X1) = Lib.decDigits (lo / 16777216 % 256) := by rw [n1, digs10 _ (by omega), dec3_eq _ (by omega)]
  have g2 : digs 10 (nv X2) = Lib.decDigits (lo / 65536 % 256) := by rw [n2, digs10 _ (by omega), dec3_eq _ (by omega)]
  have g3 : digs 10 (nv X3) = Lib.decDigits (lo / 256 % 256) := by rw [n3, digs10 _ (by omega), dec3_eq _ (by omega)]
  have g4 : digs 10 (nv X4) = Lib.decDigits (lo % 256) := by rw [n4, digs10 _ (by omega), dec3_eq _ (by omega)]
  have HT : Hid (Lib.join (four lo) [46] = digs 10 (nv X1) ++ [46] ++ digs 10 (nv X2) ++ [46] ++ digs 10 (nv X3) ++ [46] ++ digs 10 (nv X4)) := by
    rw [Hid, g1, g2, g3, g4, four]; simp [Lib.join, List.intercalate]
  have k1 := digs_len 10 (by decide) 15 _ t1
  have k2 := digs_len 10 (by decide) 15 _ t2
  have k3 := digs_len 10 (by decide) 15 _ t3
  have k4 := digs_len 10 (by decide) 15 _ t4
  have p1 : ∀ W : World, (Op.stringOp .add ⟨(digs 10 (nv X1)).toArray⟩ ⟨#[46]⟩).run Tryz.prog W = .ok (.string ⟨(digs 10 (nv X1) ++ [46]).toArray⟩) W := fun W => add_lists _ [46] W (by simp; omega)
  have p2 : ∀ W : World, (Op.stringOp .add ⟨(digs 10 (nv X1) ++ [46]).toArray⟩ ⟨(digs 10 (nv X2)).toArray⟩).run Tryz.prog W = .ok (.string ⟨(digs 10 (nv X1) ++ [46] ++ digs 10 (nv X2)).toArray⟩) W := fun W => add_lists _ _ W (by simp; omega)
  have p3 : ∀ W : World, (Op.stringOp .add ⟨(digs 10 (nv X1) ++ [46] ++ digs 10 (nv X2)).toArray⟩ ⟨#[46]⟩).run Tryz.prog W = .ok (.string ⟨(digs 10 (nv X1) ++ [46] ++ digs 10 (nv X2) ++ [46]).toArray⟩) W := fun W => add_lists _ [46] W (by simp; omega)
  have p4 : ∀ W : World, (Op.stringOp .add ⟨(digs 10 (nv X1) ++ [46] ++ digs 10 (nv X2) ++ [46]).toArray⟩ ⟨(digs 10 (nv X3)).toArray⟩).run Tryz.prog W = .ok (.string ⟨(digs 10 (nv X1) ++ [46] ++ digs 10 (nv X2) ++ [46] ++ digs 10 (nv X3)).toArray⟩) W := fun W => add_lists _ _ W (by simp; omega)
  have p5 : ∀ W : World, (Op.stringOp .add ⟨(digs 10 (nv X1) ++ [46] ++ digs 10 (nv X2) ++ [46] ++ digs 10 (nv X3)).toArray⟩ ⟨#[46]⟩).run Tryz.prog W = .ok (.string ⟨(digs 10 (nv X1) ++ [46] ++ digs 10 (nv X2) ++ [46] ++ digs 10 (nv X3) ++ [46]).toArray⟩) W := fun W => add_lists _ [46] W (by simp; omega)
  have p6 : ∀ W : World, (Op.stringOp .add ⟨(digs 10 (nv X1) ++ [46] ++ digs 10 (nv X2) ++ [46] ++ digs 10 (nv X3) ++ [46]).toArray⟩ ⟨(digs 10 (nv X4)).toArray⟩).run Tryz.prog W = .ok (.string ⟨(digs 10 (nv X1) ++ [46] ++ digs 10 (nv X2) ++ [46] ++ digs 10 (nv X3) ++ [46] ++ digs 10 (nv X4)).toArray⟩) W := fun W => add_lists _ _ W (by simp; omega)
  generalize digs 10 (nv X1) ++ [46] ++ digs 10 (nv X2) ++ [46] ++ digs 10 (nv X3) ++ [46] ++ digs 10 (nv X4) = L6 at p6 HT
  generalize digs 10 (nv X1) ++ [46] ++ digs 10 (nv X2) ++ [46] ++ digs 10 (nv X3) ++ [46] = L5 at p5 p6
  generalize digs 10 (nv X1) ++ [46] ++ digs 10 (nv X2) ++ [46] ++ digs 10 (nv X3) = L4 at p4 p5
  generalize digs 10 (nv X1) ++ [46] ++ digs 10 (nv X2) ++ [46] = L3 at p3 p4
  generalize digs 10 (nv X1) ++ [46] ++ digs 10 (nv X2) = L2 at p2 p3
  generalize digs 10 (nv X1) ++ [46] = L1 at p1 p2
  clear k1 k2 k3 k4 g1 g2 g3 g4 n1 n2 n3 n4 e1 e2 e3 e4 b1 b2 b3 b4 hXX hXz hXl hbt
  go_enter Tryz.func31, Tryz.ntmps31
  go_wp2_with fail
  have c0 : (w.alloc (.cells #[.bool false, .int .u64 hi, .int .u64 lo] 24)).cell? ⟨w.heap.size, 0, none⟩ = some (.bool false) := by simp [go_sem]
  have hsz : w.heap.size < (w.alloc (.cells #[.bool false, .int .u64 hi, .int .u64 lo] 24)).heap.size := by simp
  generalize w.alloc (.cells #[.bool false, .int .u64 hi, .int .u64 lo] 24) = W0 at *
  refine (HX.out _).mono ?_
  rintro e w1 ⟨rfl, hb1⟩
  have hc := (bcell hb1).1 w.heap.size 0 hsz
  rw [c0] at hc
  have B : Hid (Below w.heap.size w w1) := btr HB0.out hb1
  have B' : Hid (Below w.heap.size w w1.drew) := B.out.drew
  clear hb1 c0 hsz
  go_wp2_with fail
  go_region_held3 (fun w' => Below w.heap.size w w')
    (first | exact B'.out | exact btr (by assumption) (by assumption) | assumption)
    (first
      | (go_at_call 48; refine (HN.out _ _ (by assumption)).mono ?_; rintro e w3 ⟨rfl, rfl⟩)
      | (go_at_call 32; refine (HD.out _ _ (by assumption)).mono ?_; rintro e w3 ⟨rfl, hb⟩))
  have HS : Below w.heap.size w w3 := by assumption
  go_wp2_with fail
  rw [HT.out]
  go_ret
  exact ⟨rfl, HS⟩
end Go.Proofs.YtollaiabcnmebaaGreatDoor

namespace Go.Proofs.YtollaiabcnmebaaGreatDoor

/-- How many noughts a list begins with. -/
def zr : List Nat → Nat
  | [] => 0
  | g :: r => if g = 0 then zr r + 1 else 0
theorem zr_le : ∀ l : List Nat, zr l ≤ l.length
  | [] => Nat.le_refl _
  | g :: r => by have := zr_le r; rw [zr]; split <;> simp <;> omega
/-- The document's row, from place to place: where it begins (-1: nowhere), and how long it is. -/
def drow (gs : List Nat) : Nat → Int × Int
  | 0 => (-1, 1)
  | k + 1 => if (drow gs k).2 < (zr (gs.drop k) : Int) then ((k : Int), (zr (gs.drop k) : Int)) else drow gs k

def z01 (g : Nat) : Nat := if g = 0 then 0 else 1
theorem zr_map : ∀ l : List Nat, zr (l.map z01) = zr l
  | [] => rfl
  | g :: r => by
    rw [List.map_cons, zr, zr, zr_map r]
    by_cases h : g = 0
    · simp [h, z01]
    · simp [h, z01]
theorem drow_map (gs : List Nat) : ∀ k, drow (gs.map z01) k = drow gs k
  | 0 => rfl
  | k + 1 => by rw [drow, drow, drow_map gs k, ← List.map_drop, zr_map]
theorem lrowGo_map : ∀ (l : List Nat) (i f t s : Nat), lrowGo (l.map z01) i f t s = lrowGo l i f t s
  | [], _, _, _, _ => rfl
  | g :: r, i, f, t, s => by
    rw [List.map_cons, lrowGo, lrowGo, lrowGo_map r, lrowGo_map r, lrowGo_map r]
    by_cases h : g = 0
    · simp [h, z01]
    · simp [h, z01]
theorem lrow_map (gs : List Nat) : lrow (gs.map z01) = lrow gs := lrowGo_map gs 0 0 0 0
def bn (b : Bool) : Nat := if b then 1 else 0
theorem rows_all : ∀ b0 b1 b2 b3 b4 b5 b6 b7 : Bool,
    (lrow [bn b0, bn b1, bn b2, bn b3, bn b4, bn b5, bn b6, bn b7]).1 ≤ (lrow [bn b0, bn b1, bn b2, bn b3, bn b4, bn b5, bn b6, bn b7]).2 ∧ (lrow [bn b0, bn b1, bn b2, bn b3, bn b4, bn b5, bn b6, bn b7]).2 ≤ 8 ∧
    drow [bn b0, bn b1, bn b2, bn b3, bn b4, bn b5, bn b6, bn b7] 8 = (if (lrow [bn b0, bn b1, bn b2, bn b3, bn b4, bn b5, bn b6, bn b7]).2 - (lrow [bn b0, bn b1, bn b2, bn b3, bn b4, bn b5, bn b6, bn b7]).1 < 2 then (-1, 1)
      else (((lrow [bn b0, bn b1, bn b2, bn b3, bn b4, bn b5, bn b6, bn b7]).1 : Int), (((lrow [bn b0, bn b1, bn b2, bn b3, bn b4, bn b5, bn b6, bn b7]).2 - (lrow [bn b0, bn b1, bn b2, bn b3, bn b4, bn b5, bn b6, bn b7]).1 : Nat) : Int))) := by decide +kernel
theorem z01_bn (g : Nat) : z01 g = bn (decide (g ≠ 0)) := by
  by_cases h : g = 0 <;> simp [z01, bn, h]
theorem rows_same (gs : List Nat) (h : gs.length = 8) : (lrow gs).1 ≤ (lrow gs).2 ∧ (lrow gs).2 ≤ 8 ∧
    drow gs 8 = (if (lrow gs).2 - (lrow gs).1 < 2 then (-1, 1) else (((lrow gs).1 : Int), (((lrow gs).2 - (lrow gs).1 : Nat) : Int))) := by
  match gs, h with
  | [a, b, c, d, e, f, g, i], _ =>
    have := rows_all (decide (a ≠ 0)) (decide (b ≠ 0)) (decide (c ≠ 0)) (decide (d ≠ 0)) (decide (e ≠ 0)) (decide (f ≠ 0)) (decide (g ≠ 0)) (decide (i ≠ 0))
    rw [← z01_bn, ← z01_bn, ← z01_bn, ← z01_bn, ← z01_bn, ← z01_bn, ← z01_bn, ← z01_bn] at this
    have hm : [z01 a, z01 b, z01 c, z01 d, z01 e, z01 f, z01 g, z01 i] = [a, b, c, d, e, f, g, i].map z01 := rfl
    rw [hm, lrow_map, drow_map] at this
    exact this

theorem hexd_no58 (k : Nat) (h : k < 16) : hexd k ≠ 58 := by
  have : k = 0 ∨ k = 1 ∨ k = 2 ∨ k = 3 ∨ k = 4 ∨ k = 5 ∨ k = 6 ∨ k = 7 ∨ k = 8 ∨ k = 9 ∨ k = 10 ∨ k = 11 ∨ k = 12 ∨ k = 13 ∨ k = 14 ∨ k = 15 := by omega
  rcases this with rfl | rfl | rfl | rfl | rfl | rfl | rfl | rfl | rfl | rfl | rfl | rfl | rfl | rfl | rfl | rfl <;> decide
theorem hexs_end (g : Nat) (h : g < 65536) : ∃ (a : List UInt8) (c : UInt8), hexs g = a ++ [c] ∧ c ≠ 58 := by
  unfold hexs
  split
  · exact ⟨[], _, rfl, hexd_no58 _ (by omega)⟩
  · split
    · exact ⟨[_], _, rfl, hexd_no58 _ (by omega)⟩
    · split
      · exact ⟨[_, _], _, rfl, hexd_no58 _ (by omega)⟩
      · exact ⟨[_, _, _], _, rfl, hexd_no58 _ (by omega)⟩
theorem ptext_snoc (q : List Nat) (g : Nat) (h : q ≠ []) : ptext (q ++ [g]) = ptext q ++ [58] ++ hexs g := by
  unfold ptext
  induction q with
  | nil => exact absurd rfl h
  | cons a r ih =>
    cases r with
    | nil => simp [Lib.join, List.intercalate]
    | cons b r =>
      have := ih (by simp)
      simp only [List.cons_append, List.map_cons] at this ⊢
      rw [join_more, join_more, this]
      simp
theorem ptext_one (g : Nat) : ptext [g] = hexs g := by simp [ptext, Lib.join, List.intercalate]
theorem ptext_end (q : List Nat) (hq : q ≠ []) (h : ∀ x ∈ q, x < 65536) : ∃ (a : List UInt8) (c : UInt8), ptext q = a ++ [c] ∧ c ≠ 58 := by
  obtain ⟨r, g, rfl⟩ : ∃ r g, q = r ++ [g] := ⟨q.dropLast, q.getLast hq, (List.dropLast_concat_getLast hq).symm⟩
  obtain ⟨a, c, e, hc⟩ := hexs_end g (h g (by simp))
  by_cases hr : r = []
  · subst hr; rw [List.nil_append, ptext_one]; exact ⟨a, c, e, hc⟩
  · rw [ptext_snoc r g hr, e]; exact ⟨ptext r ++ [58] ++ a, c, by simp, hc⟩
theorem getD_get (l : List Nat) (i : Nat) (h : i < l.length) : l.getD i 0 = l[i] := by simp [List.getD, List.getElem?_eq_getElem h]

/-- What is printed ahead of a place: what stands ahead of two colons, and the groups behind that. -/
def Ph (gs : List Nat) (i : Nat) (pre : List UInt8) (q : List Nat) : Prop :=
  (pre = [] ∧ q = gs.take i ∧ ((lrow gs).2 - (lrow gs).1 < 2 ∨ i ≤ (lrow gs).1)) ∨
  (¬ (lrow gs).2 - (lrow gs).1 < 2 ∧ pre = ptext (gs.take (lrow gs).1) ++ [58, 58] ∧ (lrow gs).2 ≤ i ∧ q = (gs.drop (lrow gs).2).take (i - (lrow gs).2))
theorem Ph_step {gs : List Nat} {i : Nat} {pre : List UInt8} {q : List Nat} {a m : Int} (h8 : gs.length = 8) (hd : drow gs 8 = (a, m)) (h : Ph gs i pre q) (hi : i < 8) (hne : ¬ (i : Int) = a) :
    Ph gs (i + 1) pre (q ++ [gs.getD i 0]) := by
  obtain ⟨r1, r2, r3⟩ := rows_same gs h8
  rw [hd] at r3
  rw [getD_get _ _ (by omega)]
  rcases h with ⟨h1, h2, h3⟩ | ⟨h1, h2, h3, h4⟩
  · refine .inl ⟨h1, by rw [h2, List.take_succ_eq_append_getElem (by omega)], ?_⟩
    rcases h3 with h3 | h3
    · exact .inl h3
    · by_cases hl : (lrow gs).2 - (lrow gs).1 < 2
      · exact .inl hl
      · rw [if_neg hl] at r3
        injection r3 with r3 r4
        right; omega
  · refine .inr ⟨h1, h2, by omega, ?_⟩
    rw [h4, show i + 1 - (lrow gs).2 = (i - (lrow gs).2) + 1 by omega, List.take_succ_eq_append_getElem (by rw [List.length_drop]; omega), List.getElem_drop]
    congr 3; omega
theorem Ph_jump {gs : List Nat} {i : Nat} {pre : List UInt8} {q : List Nat} {a m : Int} (h8 : gs.length = 8) (hd : drow gs 8 = (a, m)) (h : Ph gs i pre q) (hi : i < 8) (he : (i : Int) = a) :
    2 ≤ m ∧ (i : Int) + m ≤ 8 ∧ Ph gs (i + m.toNat) (pre ++ ptext q ++ [58, 58]) [] := by
  obtain ⟨r1, r2, r3⟩ := rows_same gs h8
  rw [hd] at r3
  by_cases hl : (lrow gs).2 - (lrow gs).1 < 2
  · rw [if_pos hl] at r3
    injection r3 with r3 r4
    omega
  · rw [if_neg hl] at r3
    injection r3 with r3 r4
    have hif : i = (lrow gs).1 := by omega
    refine ⟨by omega, by omega, .inr ⟨hl, ?_, by omega, ?_⟩⟩
    · rcases h with ⟨h1, h2, h3⟩ | ⟨h1, h2, h3, h4⟩
      · rw [h1, h2, hif]; rfl
      · omega
    · rw [show i + m.toNat - (lrow gs).2 = 0 by omega]; rfl
theorem Ph_end {gs : List Nat} {pre : List UInt8} {q : List Nat} (h8 : gs.length = 8) (h : Ph gs 8 pre q) : pre ++ ptext q = psix gs := by
  obtain ⟨r1, r2, _⟩ := rows_same gs h8
  unfold psix
  rcases h with ⟨h1, h2, h3⟩ | ⟨h1, h2, h3, h4⟩
  · rw [h1, h2, List.take_of_length_le (by omega), if_pos (by omega)]; rfl
  · have e : (gs.drop (lrow gs).2).take (8 - (lrow gs).2) = gs.drop (lrow gs).2 := List.take_of_length_le (by rw [List.length_drop]; omega)
    rw [if_neg h1, h2, h4, e]
theorem Ph_pre {gs : List Nat} {i : Nat} {pre : List UInt8} {q : List Nat} (h : Ph gs i pre q) : pre = [] ∨ ∃ r, pre = r ++ [58] := by
  rcases h with ⟨h1, _⟩ | ⟨_, h2, _⟩
  · exact .inl h1
  · exact .inr ⟨ptext (gs.take (lrow gs).1) ++ [58], by rw [h2]; simp⟩
theorem Ph_q {gs : List Nat} {i : Nat} {pre : List UInt8} {q : List Nat} (h : Ph gs i pre q) (hg : ∀ x ∈ gs, x < 65536) : ∀ x ∈ q, x < 65536 := by
  intro x hx
  rcases h with ⟨_, h2, _⟩ | ⟨_, _, _, h4⟩
  · rw [h2] at hx; exact hg x (List.mem_of_mem_take hx)
  · rw [h4] at hx; exact hg x (List.mem_of_mem_drop (List.mem_of_mem_take hx))
end Go.Proofs.YtollaiabcnmebaaGreatDoor

namespace Go.Proofs.YtollaiabcnmebaaGreatDoor
open Go.RowKit

theorem grps_length (hi lo : Int) : (grps hi lo).length = 8 := rfl
theorem bits_grp (hi lo : Nat) (h1 : hi < 18446744073709551616) (l1 : lo < 18446744073709551616) (i : Nat) (h : i < 8) :
    ∃ n : Nat, ((bitsT true hi lo).drop (16 * i)).take 16 = bin 16 n ∧ n % 65536 = (grps hi lo)[i]'(by rw [grps_length]; exact h) := by
  have hb : bitsT true hi lo = bin 64 hi ++ bin 64 lo := rfl
  have l64 : (bin 64 hi).length = 64 := bin_length _ _
  have up : ∀ k, k + 16 ≤ 64 → ((bin 64 hi ++ bin 64 lo).drop k).take 16 = ((bin 64 hi).drop k).take 16 := by
    intro k hk
    rw [List.drop_append_of_le_length (by omega), List.take_append_of_le_length (by rw [List.length_drop]; omega)]
  have dn : ∀ k, ((bin 64 hi ++ bin 64 lo).drop (64 + k)).take 16 = ((bin 64 lo).drop k).take 16 := by
    intro k
    rw [show 64 + k = (bin 64 hi).length + k by rw [l64], List.drop_length_add_append]
  have : i = 0 ∨ i = 1 ∨ i = 2 ∨ i = 3 ∨ i = 4 ∨ i = 5 ∨ i = 6 ∨ i = 7 := by omega
  rw [hb]
  rcases this with rfl | rfl | rfl | rfl | rfl | rfl | rfl | rfl
  · exact ⟨_, (up 0 (by decide)).trans (bin_sub 0 16 48 hi), by simp [grps, eight]; omega⟩
  · exact ⟨_, (up 16 (by decide)).trans (bin_sub 16 16 32 hi), by simp [grps, eight]; omega⟩
  · exact ⟨_, (up 32 (by decide)).trans (bin_sub 32 16 16 hi), by simp [grps, eight]; omega⟩
  · exact ⟨_, (up 48 (by decide)).trans (bin_sub 48 16 0 hi), by simp [grps, eight]; omega⟩
  · exact ⟨_, (dn 0).trans (bin_sub 0 16 48 lo), by simp [grps, eight]; omega⟩
  · exact ⟨_, (dn 16).trans (bin_sub 16 16 32 lo), by simp [grps, eight]; omega⟩
  · exact ⟨_, (dn 32).trans (bin_sub 32 16 16 lo), by simp [grps, eight]; omega⟩
  · exact ⟨_, (dn 48).trans (bin_sub 48 16 0 lo), by simp [grps, eight]; omega⟩

/-- Numbers lie in a row. -/
def RowN (W : World) (B : Nat) (R : List Nat) : Prop := ∀ (j : Nat) (n : Nat), R[j]? = some n → W.cell? ⟨B, j, none⟩ = some (.int .i64 (n : Int)) ∧ W.frozen? ⟨B, j, none⟩ = false
theorem RowN.set {W : World} {B : Nat} {R : List Nat} (h : RowN W B R) (m : Nat) (hm : m < R.length) (c : Nat) : RowN (W.setCell ⟨B, m, none⟩ (.int .i64 (c : Int))) B (R.set m c) := by
  intro j d hj
  by_cases hjm : j = m
  · subst hjm
    rw [List.getElem?_set_self hm] at hj
    injection hj with hj; subst hj
    obtain ⟨h1, h2⟩ := h j R[j] (List.getElem?_eq_getElem hm)
    exact ⟨World.cell?_setCell_same _ _ _ h1, by rw [World.frozen?_setCell]; exact h2⟩
  · rw [List.getElem?_set_ne (Ne.symm hjm)] at hj
    obtain ⟨h1, h2⟩ := h j d hj
    refine ⟨?_, by rw [World.frozen?_setCell]; exact h2⟩
    rw [World.cell?_setCell_other (h := by intro e; injection e with _ e; exact hjm e.symm)]
    exact h1
theorem RowN.below {W W' : World} {B : Nat} {R : List Nat} (h : RowN W B R) (hB : B < W.heap.size) (hb : Below W.heap.size W W') : RowN W' B R := by
  intro j d hj
  obtain ⟨h1, h2⟩ := h j d hj
  exact ⟨by rw [(bcell hb).1 B j hB]; exact h1, by rw [(bcell hb).2 B j hB]; exact h2⟩
theorem RowN.new (W : World) (t : Nat) : RowN (W.alloc (.cells #[.int .i64 0, .int .i64 0, .int .i64 0, .int .i64 0, .int .i64 0, .int .i64 0, .int .i64 0, .int .i64 0] t)) W.heap.size (List.replicate 8 0) := by
  intro j n hj
  have hj8 : j < 8 := by have := (List.getElem?_eq_some_iff.1 hj).1; simpa using this
  have hn : n = 0 := by have := List.mem_of_getElem? hj; exact (List.mem_replicate.1 this).2
  subst hn
  refine ⟨?_, World.frozen?_alloc_at _ _ _ _ rfl⟩
  have : j = 0 ∨ j = 1 ∨ j = 2 ∨ j = 3 ∨ j = 4 ∨ j = 5 ∨ j = 6 ∨ j = 7 := by omega
  rcases this with rfl | rfl | rfl | rfl | rfl | rfl | rfl | rfl <;> simp [go_sem]

set_option maxHeartbeats 16000000 in
set_option maxRecDepth 100000 in
theorem textOf6_any (hi lo : Nat) (w : World) (h1 : hi < 18446744073709551616) (l1 : lo < 18446744073709551616) :
    Calls Tryz.prog 31 #[.agg #[.bool true, .int .u64 hi, .int .u64 lo]] w fun e w' => e = .returned (.string ⟨(psix (grps hi lo)).toArray⟩) ∧ Below w.heap.size w w' := by
  have HX : Hid (∀ w : World, Calls Tryz.prog 13 #[.agg #[.bool true, .int .u64 hi, .int .u64 lo]] w fun e w' => e = .returned (.string ⟨(bitsT true hi lo).toArray⟩) ∧ Below w.heap.size w w') := fun w => bits_any true hi lo w h1 l1
  have HSL : Hid (∀ (i : Nat) (h : i < 8), ∃ X : ByteArray, (∀ W : World, (Instr.sliceAt 9 (.string ⟨(bitsT true hi lo).toArray⟩) (some (.int .i64 (16 * (i : Int)))) (some (.int .i64 (16 * (i : Int) + 16))) none).run Tryz.prog W = .ok (.string X) W) ∧
      ∀ w : World, Calls Tryz.prog 48 #[.string X] w fun e w' => e = .returned (.int .i64 (((grps hi lo).getD i 0 : Nat) : Int)) ∧ w' = w) := by
    intro i h
    obtain ⟨n, hn1, hn2⟩ := bits_grp hi lo h1 l1 i h
    refine ⟨⟨(bin 16 n).toArray⟩, fun W => ?_, fun w => ?_⟩
    · have := bits_slice true hi lo (16 * i) (16 * i + 16) W (by omega) (by rw [bitsT_length, if_pos rfl]; omega)
      rw [Nat.add_sub_cancel_left, hn1, show ((16 * i + 16 : Nat) : Int) = 16 * (i : Int) + 16 by omega, show ((16 * i : Nat) : Int) = 16 * (i : Int) by omega] at this
      exact this
    · have hf := few_bin 16 n (by decide)
      have := numberOf_any ⟨(bin 16 n).toArray⟩ w (by have := hf.1; omega) hf.2
      have h3 : vbin 0 (bin 16 n) = n % 65536 := nv_bin 16 n
      rw [getD_get _ _ (by rw [grps_length]; exact h), ← hn2, ← h3]; exact this
  have hgl : ∀ x ∈ grps hi lo, x < 65536 := grps_lt hi lo (by omega) (by omega)
  have HT : Hid (psix (grps hi lo) = psix (grps hi lo)) := rfl
  have h8 := grps_length hi lo
  obtain ⟨T, hT⟩ : ∃ T, T = psix (grps hi lo) := ⟨_, rfl⟩
  have HTT : Hid (T = psix (grps hi lo)) := hT
  rw [← hT]
  clear HT hT
  generalize grps hi lo = gs at *
  generalize hXX : (⟨(bitsT true hi lo).toArray⟩ : ByteArray) = XX at *
  clear hXX
  have HB0 : Hid (Below w.heap.size w (w.alloc (.cells #[.bool true, .int .u64 hi, .int .u64 lo] 24))) := bal (Below.refl _ _) _
  have c0 : (w.alloc (.cells #[.bool true, .int .u64 hi, .int .u64 lo] 24)).cell? ⟨w.heap.size, 0, none⟩ = some (.bool true) := by simp [go_sem]
  have hsz : w.heap.size < (w.alloc (.cells #[.bool true, .int .u64 hi, .int .u64 lo] 24)).heap.size := by simp
  go_enter Tryz.func31, Tryz.ntmps31
  go_wp2_with fail
  generalize w.alloc (.cells #[.bool true, .int .u64 hi, .int .u64 lo] 24) = W0 at *
  refine (HX.out _).mono ?_
  rintro e w1 ⟨rfl, hb1⟩
  have hc := (bcell hb1).1 w.heap.size 0 hsz
  rw [c0] at hc
  have B : Hid (Below w.heap.size w w1) := btr HB0.out hb1
  clear hb1 c0 hsz
  go_wp2_with fail
  have R1 : RowN (w1.alloc (.cells #[.int .i64 0, .int .i64 0, .int .i64 0, .int .i64 0, .int .i64 0, .int .i64 0, .int .i64 0, .int .i64 0] 78)) w1.heap.size (List.replicate 8 0) := RowN.new w1 _
  have B1 : Below w.heap.size w (w1.alloc (.cells #[.int .i64 0, .int .i64 0, .int .i64 0, .int .i64 0, .int .i64 0, .int .i64 0, .int .i64 0, .int .i64 0] 78)) := bal B.out _
  have hBlt : w1.heap.size < (w1.alloc (.cells #[.int .i64 0, .int .i64 0, .int .i64 0, .int .i64 0, .int .i64 0, .int .i64 0, .int .i64 0, .int .i64 0] 78)).heap.size := by simp
  have hBle : w.heap.size ≤ w1.heap.size := B.out.size
  generalize w1.alloc (.cells #[.int .i64 0, .int .i64 0, .int .i64 0, .int .i64 0, .int .i64 0, .int .i64 0, .int .i64 0, .int .i64 0] 78) = W1 at *
  have HR1 : Hid (RowN W1 w1.heap.size (List.replicate 8 0)) := R1
  have HB1 : Hid (Below w.heap.size w W1) := B1
  clear R1 B1 B hc HB0 HX
  generalize w1.heap.size = Bk at *
  go_loopw [5] (fun vi wr => ∃ (i : Nat), vi = .int .i64 i ∧ i ≤ 8 ∧ Hid (Below w.heap.size w wr ∧ Bk < wr.heap.size ∧ RowN wr Bk (gs.take i ++ List.replicate (8 - i) 0)))
    (fun vi _ => (8 - intOf vi).toNat)
  case atStart => exact ⟨0, rfl, by omega, HB1.out, hBlt, HR1.out⟩
  case round =>
    obtain ⟨i, rfl, hi8, HH⟩ := hrel
    obtain ⟨hbr, hBr, hrow⟩ := HH.out
    by_cases hi : i < 8
    · obtain ⟨Xi, hsl, hnum⟩ := HSL.out i hi
      have HNUM : Hid (∀ w : World, Calls Tryz.prog 48 #[.string Xi] w fun e w' => e = .returned (.int .i64 ((gs.getD i 0 : Nat) : Int)) ∧ w' = w) := hnum
      have hin : (gs.take i ++ List.replicate (8 - i) 0)[i]? = some 0 := by
        rw [List.getElem?_append_right (by rw [List.length_take]; omega), List.length_take, Nat.min_eq_left (by omega), Nat.sub_self, List.getElem?_replicate]; simp; omega
      obtain ⟨hcm, hfm⟩ := hrow i 0 hin
      have hset := hrow.set i (by rw [List.length_append, List.length_take, List.length_replicate]; omega) (gs.getD i 0)
      have hse : (gs.take i ++ List.replicate (8 - i) 0).set i (gs.getD i 0) = gs.take (i + 1) ++ List.replicate (8 - (i + 1)) 0 := by
        rw [getD_get _ _ (show i < gs.length by omega), List.set_append_right _ _ (by rw [List.length_take]; omega), List.length_take, Nat.min_eq_left (by omega), Nat.sub_self, show 8 - i = (8 - (i + 1)) + 1 by omega, List.replicate_succ, List.set_cons_zero, List.take_succ_eq_append_getElem (show i < gs.length by omega), List.append_assoc]
        rfl
      rw [hse] at hset
      have hii : (i : Int) < 8 := by omega
      have hi0 : (0 : Int) ≤ (i : Int) := by omega
      have HH2 : Hid (Below w.heap.size w (wr.setCell ⟨Bk, i, none⟩ (.int .i64 ((gs.getD i 0 : Nat) : Int))) ∧ Bk < (wr.setCell ⟨Bk, i, none⟩ (.int .i64 ((gs.getD i 0 : Nat) : Int))).heap.size ∧ RowN (wr.setCell ⟨Bk, i, none⟩ (.int .i64 ((gs.getD i 0 : Nat) : Int))) Bk (gs.take (i + 1) ++ List.replicate (8 - (i + 1)) 0)) :=
        ⟨bse hbr (p := ⟨Bk, i, none⟩) hBle _, by simpa using hBr, hset⟩
      clear hset hse hin hrow HH hnum
      generalize gs.getD i 0 = gi at *
      go_wp2_with fail
      refine (HNUM.out _).mono ?_
      rintro e w2 ⟨rfl, rfl⟩
      go_wp2_with fail
      exact ⟨⟨i + 1, by go_num, by omega, HH2⟩, by simp [intOf]; omega⟩
    · have hi8' : i = 8 := by omega
      subst hi8'
      have HROW : Hid (RowN wr Bk gs) := by
        have := hrow; rw [List.take_of_length_le (by omega), Nat.sub_self, List.replicate_zero, List.append_nil] at this; exact this
      have HBr : Hid (Below w.heap.size w wr) := hbr
      clear hrow HH hbr HR1 HB1 hBlt HSL
      go_wp2_with fail
      have hrowc : ∀ j (h : j < 8), wr.cell? ⟨Bk, j, none⟩ = some (.int .i64 ((gs.getD j 0 : Nat) : Int)) := fun j h => (HROW.out j _ (by rw [getD_get _ _ (by omega)]; exact List.getElem?_eq_getElem (by omega))).1
      have HROWC : Hid (∀ j (h : j < 8), wr.cell? ⟨Bk, j, none⟩ = some (.int .i64 ((gs.getD j 0 : Nat) : Int))) := hrowc
      clear hrowc HROW
      go_loop [6, 7, 8] (fun va vm vf => ∃ (f : Nat) (a m : Int), vf = .int .i64 f ∧ va = .int .i64 a ∧ vm = .int .i64 m ∧ f ≤ 8 ∧ -1 ≤ a ∧ a ≤ 8 ∧ 1 ≤ m ∧ m ≤ 8 ∧ Hid (drow gs f = (a, m)))
        (fun _ _ vf => (8 - intOf vf).toNat)
      case atStart => exact ⟨0, -1, 1, rfl, rfl, rfl, by omega, by omega, by omega, by omega, by omega, rfl⟩
      case round =>
        obtain ⟨f, a, m, rfl, rfl, rfl, hf8, a0, a1, m0, m1, HD⟩ := hrel
        by_cases hf : f < 8
        · have hfi : (f : Int) < 8 := by omega
          go_wp2_with fail
          go_loop [9] (fun vn => ∃ n : Nat, vn = .int .i64 n ∧ f + n ≤ 8 ∧ Hid (zr (gs.drop f) = n + zr (gs.drop (f + n))))
            (fun vn => (8 - intOf vn).toNat)
          case atStart => exact ⟨0, rfl, by omega, by rw [Hid, Nat.zero_add, Nat.add_zero]⟩
          case round =>
            obtain ⟨n, rfl, hfn, HZ⟩ := hrel
            by_cases hn8 : f + n < 8
            · have hcx := HROWC.out (f + n) hn8
              have hdr := List.drop_eq_getElem_cons (show f + n < gs.length by omega)
              have hgd := getD_get gs (f + n) (by omega)
              have hz := HZ.out
              rw [hdr, zr, ← hgd] at hz
              have hfni : (f : Int) + (n : Int) < 8 := by omega
              have hfn0 : (0 : Int) ≤ (f : Int) + (n : Int) := by omega
              by_cases hg : gs.getD (f + n) 0 = 0
              · rw [if_pos hg] at hz
                rw [hg] at hcx
                have HZ2 : Hid (zr (gs.drop f) = (n + 1) + zr (gs.drop (f + (n + 1)))) := by rw [Hid, hz, ← Nat.add_assoc f n 1]; omega
                clear hz hgd hdr HZ hg
                go_wp2_with fail
                exact ⟨⟨n + 1, by go_num, by omega, HZ2⟩, by simp [intOf]; omega⟩
              · rw [if_neg hg, Nat.add_zero] at hz
                have hgi : ¬ ((gs.getD (f + n) 0 : Nat) : Int) = 0 := by omega
                have hgb : (((gs.getD (f + n) 0 : Nat) : Int) == 0) = false := by rw [beq_eq_false_iff_ne]; exact hgi
                generalize gs.getD (f + n) 0 = gx at hcx hgi hgb
                by_cases hnm : m < (n : Int)
                · have HD2 : Hid (drow gs (f + 1) = ((f : Int), (n : Int))) := by rw [Hid, drow, hz, HD.out, if_pos hnm]
                  clear hz hgd hdr HZ hg
                  go_wp2_with fail
                  exact ⟨⟨.int .i64 (f : Int), .int .i64 (n : Int), .int .i64 ((f : Int) + 1), ⟨f + 1, by go_num, (f : Int), rfl, (n : Int), rfl, by omega, by omega, by omega, by omega, by omega, HD2⟩, rfl, rfl, rfl⟩, by simp [intOf]; omega⟩
                · have HD2 : Hid (drow gs (f + 1) = (a, m)) := by rw [Hid, drow, hz, HD.out, if_neg hnm]
                  clear hz hgd hdr HZ hg
                  go_wp2_with fail
                  exact ⟨⟨.int .i64 a, .int .i64 m, .int .i64 ((f : Int) + 1), ⟨f + 1, by go_num, a, rfl, m, rfl, by omega, by omega, by omega, by omega, by omega, HD2⟩, rfl, rfl, rfl⟩, by simp [intOf]; omega⟩
            · have hz := HZ.out
              rw [List.drop_eq_nil_of_le (show gs.length ≤ f + n by omega), zr, Nat.add_zero] at hz
              have hfni : ¬ (f : Int) + (n : Int) < 8 := by omega
              have hfnb : decide ((f : Int) + (n : Int) < 8) = false := decide_eq_false hfni
              by_cases hnm : m < (n : Int)
              · have HD2 : Hid (drow gs (f + 1) = ((f : Int), (n : Int))) := by rw [Hid, drow, hz, HD.out, if_pos hnm]
                clear hz HZ
                go_wp2_with fail
                exact ⟨⟨.int .i64 (f : Int), .int .i64 (n : Int), .int .i64 ((f : Int) + 1), ⟨f + 1, by go_num, (f : Int), rfl, (n : Int), rfl, by omega, by omega, by omega, by omega, by omega, HD2⟩, rfl, rfl, rfl⟩, by simp [intOf]; omega⟩
              · have HD2 : Hid (drow gs (f + 1) = (a, m)) := by rw [Hid, drow, hz, HD.out, if_neg hnm]
                clear hz HZ
                go_wp2_with fail
                exact ⟨⟨.int .i64 a, .int .i64 m, .int .i64 ((f : Int) + 1), ⟨f + 1, by go_num, a, rfl, m, rfl, by omega, by omega, by omega, by omega, by omega, HD2⟩, rfl, rfl, rfl⟩, by simp [intOf]; omega⟩
        · have hf8' : f = 8 := by omega
          subst hf8'
          go_wp2_with fail
          have HDR : Hid (drow gs 8 = (a, m)) := HD
          have HDG : Hid (∀ (n : Nat) (w : World), n < 65536 → Calls Tryz.prog 32 #[.int .i64 (n : Int), .int .i64 16] w fun e w' => e = .returned (.string ⟨(hexs n).toArray⟩) ∧ Below w.heap.size w w') := fun n w h => by
            have := digits_any 16 (by decide) (by decide) n (by omega) w
            rw [digs16 n h] at this; exact this
          clear HD
          go_loopw [10, 11] (fun vs vi w3 => ∃ (i : Nat) (S : ByteArray) (pre : List UInt8) (q : List Nat), vi = .int .i64 i ∧ vs = .string S ∧ i ≤ 8 ∧ S.size ≤ 5 * i ∧ Below wr.heap.size wr w3 ∧ Hid (S = ⟨(pre ++ ptext q).toArray⟩ ∧ Ph gs i pre q))
            (fun _ vi _ => (8 - intOf vi).toNat)
          case atStart => exact ⟨0, ⟨#[]⟩, [], [], rfl, rfl, by omega, by simp [ByteArray.size], Below.refl _ _, rfl, .inl ⟨rfl, rfl, .inr (Nat.zero_le _)⟩⟩
          case round =>
            obtain ⟨i, S, pre, q, rfl, rfl, hi8, hSz, hb3, HPH⟩ := hrel
            by_cases hi : i < 8
            · obtain ⟨hS, hph⟩ := HPH.out
              have hSl : S.data.toList = pre ++ ptext q := by rw [hS]
              have hii : (i : Int) < 8 := by omega
              have hi0 : (0 : Int) ≤ (i : Int) := by omega
              have hss := size_list S
              rw [hSl] at hss
              by_cases hia : (i : Int) = a
              · obtain ⟨j1, j2, j3⟩ := Ph_jump h8 HDR.out hph hi hia
                have hp1 : ∀ W : World, (Op.stringOp .add S ⟨#[58, 58]⟩).run Tryz.prog W = .ok (.string ⟨(pre ++ ptext q ++ [58, 58]).toArray⟩) W := fun W => by
                  rw [hS]; exact add_lists _ [58, 58] W (by simp at hss ⊢; omega)
                have HJ : Hid ((⟨(pre ++ ptext q ++ [58, 58]).toArray⟩ : ByteArray).size ≤ 5 * (i + m.toNat) ∧ Ph gs (i + m.toNat) (pre ++ ptext q ++ [58, 58]) []) := ⟨by
                  show (pre ++ ptext q ++ [58, 58]).toArray.size ≤ _
                  rw [List.size_toArray, List.length_append, hss]; simp; omega, j3⟩
                have hiab : ((i : Int) == a) = true := by rw [beq_iff_eq]; exact hia
                have HIA : Hid ((i : Int) = a) := hia
                generalize hL : pre ++ ptext q ++ [58, 58] = L at *
                clear hS hph hSl HPH hia hss hL j3
                go_wp2_with fail
                exact ⟨⟨i + m.toNat, _, L, [], congrArg (Value.int .i64) (by omega), rfl, by omega, HJ.out.1, hb3, by rw [show ptext ([] : List Nat) = [] from rfl, List.append_nil], HJ.out.2⟩, by simp [intOf]; omega⟩
              · have hiab : ((i : Int) == a) = false := by rw [beq_eq_false_iff_ne]; exact hia
                have hst := Ph_step h8 HDR.out hph hi hia
                have hcx := (bcell hb3).1 Bk i hBr
                rw [HROWC.out i hi] at hcx
                have hgi : gs.getD i 0 < 65536 := hgl _ (by rw [getD_get _ _ (by omega)]; exact List.getElem_mem _)
                generalize gs.getD i 0 = gi at hst hcx hgi
                have HG := HDG.out gi
                have HGG : Hid (∀ w : World, Calls Tryz.prog 32 #[.int .i64 (gi : Int), .int .i64 16] w fun e w' => e = .returned (.string ⟨(hexs gi).toArray⟩) ∧ Below w.heap.size w w') := fun w => HG w hgi
                clear HG
                have hx4 := hexs_le gi
                by_cases hq : q = []
                · subst hq
                  have hpt : ptext ([] : List Nat) = [] := rfl
                  rw [hpt, List.append_nil] at hSl hss
                  obtain ⟨S2, hS2⟩ : ∃ X : ByteArray, X = ⟨(pre ++ ptext ([] ++ [gi])).toArray⟩ := ⟨_, rfl⟩
                  have hp2 : ∀ W : World, (Op.stringOp .add S ⟨(hexs gi).toArray⟩).run Tryz.prog W = .ok (.string S2) W := fun W => by
                    rw [hS, hS2, hpt, List.append_nil, List.nil_append, ptext_one]; exact add_lists _ _ W (by omega)
                  have HS2 : Hid (S2.size ≤ 5 * (i + 1) ∧ S2 = ⟨(pre ++ ptext ([] ++ [gi])).toArray⟩ ∧ Ph gs (i + 1) pre ([] ++ [gi])) := ⟨by
                    rw [hS2]; show (pre ++ ptext ([] ++ [gi])).toArray.size ≤ _
                    rw [List.size_toArray, List.length_append, hss, List.nil_append, ptext_one]; omega, hS2, hst⟩
                  rcases Ph_pre hph with hpr | ⟨r, hpr⟩
                  · have hemp := str_empty S (by rw [hSl, hpr])
                    clear hS hph hSl HPH hia hss hst hpr hS2 HDR hpt
                    go_wp2_with fail
                    refine (HGG.out _).mono ?_
                    rintro e w4 ⟨rfl, hb4⟩
                    have hb5 := btr hb3 hb4
                    go_wp2_with fail
                    exact ⟨⟨i + 1, S2, pre, [] ++ [gi], by go_num, rfl, by omega, HS2.out.1, hb5, HS2.out.2.1, HS2.out.2.2⟩, by simp [intOf]; omega⟩
                  · have hsome := str_some S (by rw [hSl, hpr]; simp)
                    obtain ⟨M, hM⟩ : ∃ M, M = r.length := ⟨_, rfl⟩
                    have hSM : S.size = M + 1 := by rw [← hss, hpr, List.length_append, hM]; rfl
                    have hMlt : M < S.size := by rw [hSM]; exact Nat.lt_succ_self _
                    have hlast : S[M]'hMlt = 58 := by
                      rw [← data_get S M hMlt]
                      simp only [hSl, hpr, hM]
                      simp
                    have hsk : S[M]? = some (S[M]'hMlt) := by simp [hSM]
                    have hl58 : ((S[M]'hMlt).toNat : Int) = 58 := by rw [hlast]; rfl
                    have hSi : (S.size : Int) = (M : Int) + 1 := by omega
                    have hMs : (M : Int) < (S.size : Int) := by omega
                    clear hS hph hSl HPH hia hss hst hpr hS2 HDR hpt hM hlast hSM
                    go_wp2_with fail
                    refine (HGG.out _).mono ?_
                    rintro e w4 ⟨rfl, hb4⟩
                    have hb5 := btr hb3 hb4
                    go_wp2_with fail
                    exact ⟨⟨i + 1, S2, pre, [] ++ [gi], by go_num, rfl, by omega, HS2.out.1, hb5, HS2.out.2.1, HS2.out.2.2⟩, by simp [intOf]; omega⟩
                · obtain ⟨r, c, hpe, hc58⟩ := ptext_end q hq (Ph_q hph hgl)
                  have hsome := str_some S (by rw [hSl, hpe]; simp)
                  obtain ⟨M, hM⟩ : ∃ M, M = (pre ++ r).length := ⟨_, rfl⟩
                  have hSM : S.size = M + 1 := by rw [← hss, hpe, ← List.append_assoc, List.length_append, hM]; rfl
                  have hMlt : M < S.size := by rw [hSM]; exact Nat.lt_succ_self _
                  have hlast : S[M]'hMlt = c := by
                    rw [← data_get S M hMlt]
                    simp only [hSl, hpe, hM, ← List.append_assoc]
                    simp
                  have hsk : S[M]? = some (S[M]'hMlt) := by simp [hSM]
                  have hl58 : ¬ ((S[M]'hMlt).toNat : Int) = 58 := by
                    rw [hlast]; intro e; exact hc58 (UInt8.toNat_inj.1 (by have : (58 : UInt8).toNat = 58 := rfl; omega))
                  have hl58b : (((S[M]'hMlt).toNat : Int) == 58) = false := by rw [beq_eq_false_iff_ne]; exact hl58
                  have hSi : (S.size : Int) = (M : Int) + 1 := by omega
                  have hMs : (M : Int) < (S.size : Int) := by omega
                  obtain ⟨S1, hS1⟩ : ∃ X : ByteArray, X = ⟨(pre ++ ptext q ++ [58]).toArray⟩ := ⟨_, rfl⟩
                  obtain ⟨S2, hS2⟩ : ∃ X : ByteArray, X = ⟨(pre ++ ptext (q ++ [gi])).toArray⟩ := ⟨_, rfl⟩
                  have hp1 : ∀ W : World, (Op.stringOp .add S ⟨#[58]⟩).run Tryz.prog W = .ok (.string S1) W := fun W => by
                    rw [hS, hS1]; exact add_lists _ [58] W (by rw [hss]; simp; omega)
                  have hp2 : ∀ W : World, (Op.stringOp .add S1 ⟨(hexs gi).toArray⟩).run Tryz.prog W = .ok (.string S2) W := fun W => by
                    rw [hS1, hS2, ptext_snoc q gi hq, ← List.append_assoc, ← List.append_assoc]; exact add_lists _ _ W (by rw [List.length_append, hss]; simp; omega)
                  have HS2 : Hid (S2.size ≤ 5 * (i + 1) ∧ S2 = ⟨(pre ++ ptext (q ++ [gi])).toArray⟩ ∧ Ph gs (i + 1) pre (q ++ [gi])) := ⟨by
                    rw [hS2]; show (pre ++ ptext (q ++ [gi])).toArray.size ≤ _
                    rw [List.size_toArray, ptext_snoc q gi hq, ← List.append_assoc, ← List.append_assoc, List.length_append, List.length_append, hss]; simp; omega, hS2, hst⟩
                  clear hS hph hSl HPH hia hss hst hpe hS2 hS1 HDR hM hlast hSM hc58
                  go_wp2_with fail
                  refine (HGG.out _).mono ?_
                  rintro e w4 ⟨rfl, hb4⟩
                  have hb5 := btr hb3 hb4
                  go_wp2_with fail
                  exact ⟨⟨i + 1, S2, pre, q ++ [gi], by go_num, rfl, by omega, HS2.out.1, hb5, HS2.out.2.1, HS2.out.2.2⟩, by simp [intOf]; omega⟩
            · have hi8' : i = 8 := by omega
              subst hi8'
              obtain ⟨hS, hph⟩ := HPH.out
              have hST : S = ⟨T.toArray⟩ := by rw [hS, Ph_end h8 hph, ← HTT.out]
              subst hST
              clear HPH hS hph
              go_wp2_with fail
              go_ret
              exact ⟨rfl, btr HBr.out hb3⟩
end Go.Proofs.YtollaiabcnmebaaGreatDoor

namespace Go.Proofs.YtollaiabcnmebaaGreatDoor

theorem vbin_cut (l : List UInt8) (b : Nat) : vbin 0 l = vbin 0 (l.take b) * 2 ^ (l.drop b).length + vbin 0 (l.drop b) := by
  have := vbin_append (l.take b) (l.drop b) 0
  rw [List.take_append_drop, vbin_add (l.drop b)] at this
  exact this
theorem vbin_div (l : List UInt8) (b : Nat) : vbin 0 l / 2 ^ (l.drop b).length = vbin 0 (l.take b) ∧ vbin 0 l % 2 ^ (l.drop b).length = vbin 0 (l.drop b) := by
  have h1 := vbin_cut l b
  have h2 := vbin_lt0 (l.drop b)
  have hp : 0 < 2 ^ (l.drop b).length := Nat.pow_pos (by decide)
  constructor
  · rw [h1, Nat.mul_comm, Nat.mul_add_div hp, Nat.div_eq_of_lt h2, Nat.add_zero]
  · rw [h1, Nat.mul_comm, Nat.mul_add_mod, Nat.mod_eq_of_lt h2]
theorem vbin_zero : ∀ r : List UInt8, IsBin r → (vbin 0 r = 0 ↔ ∀ c ∈ r, c = 48)
  | [], _ => by simp [vbin]
  | c :: r, h => by
    have ih := vbin_zero r (fun x hx => h x (List.mem_cons_of_mem _ hx))
    have hp : 0 < 2 ^ r.length := Nat.pow_pos (by decide)
    rw [vbin, vbin_add]
    rcases h c (by simp) with rfl | rfl
    · simp [bitv, ih]
    · simp [bitv]
theorem vbin_ones : ∀ (k acc : Nat), vbin acc (List.replicate k 49) + 1 = (acc + 1) * 2 ^ k
  | 0, acc => by simp [vbin]
  | k + 1, acc => by
    rw [List.replicate_succ, vbin, vbin_ones k, Nat.pow_succ]
    simp [bitv]
    rw [show acc * 2 + 1 + 1 = (acc + 1) * 2 by omega, Nat.mul_assoc, Nat.mul_comm 2]
theorem bin_inj : ∀ (l r : List UInt8), IsBin l → IsBin r → l.length = r.length → vbin 0 l = vbin 0 r → l = r
  | [], [], _, _, _, _ => rfl
  | [], b :: r, _, _, h, _ => by simp at h
  | a :: l, [], _, _, h, _ => by simp at h
  | a :: l, b :: r, hl, hr, h, e => by
    have h' : l.length = r.length := by simpa using h
    have x1 := vbin_lt0 l
    have x2 := vbin_lt0 r
    rw [vbin, vbin, vbin_add l, vbin_add r, h'] at e
    rw [h'] at x1
    have ih := bin_inj l r (fun c hc => hl c (List.mem_cons_of_mem _ hc)) (fun c hc => hr c (List.mem_cons_of_mem _ hc)) h'
    rcases hl a (by simp) with rfl | rfl <;> rcases hr b (by simp) with rfl | rfl
    · rw [ih (by simpa [bitv] using e)]
    · simp [bitv] at e; omega
    · simp [bitv] at e; omega
    · rw [ih (by simp [bitv] at e; omega)]
theorem vbin_set (l : List UInt8) (b : Nat) (hb : b < l.length) (h0 : l[b] = 48) : vbin 0 (l.set b 49) = vbin 0 l + 2 ^ (l.length - b - 1) := by
  have e1 : l = l.take b ++ 48 :: l.drop (b + 1) := by
    rw [← h0, ← List.drop_eq_getElem_cons hb, List.take_append_drop]
  have e2 : l.set b 49 = l.take b ++ 49 :: l.drop (b + 1) := by rw [List.set_eq_take_append_cons_drop, if_pos hb]
  have h3 : (l.drop (b + 1)).length = l.length - b - 1 := by rw [List.length_drop]; omega
  rw [e2, vbin_append, vbin, vbin_add]
  conv => rhs; rw [e1]
  rw [vbin_append, vbin, vbin_add (l.drop (b + 1)) (vbin 0 (l.take b) * 2 + bitv 48), h3]
  rw [← h3, List.length_append, List.length_cons, List.length_take]
  simp only [bitv, List.length_drop]
  rw [show min b l.length + (l.length - (b + 1) + 1) - b - 1 = l.length - (b + 1) by omega]
  simp [Nat.add_mul]
  omega
/-- What AddrOf makes of bits, as a number. -/
theorem parts_num (R : List UInt8) (h : R.length = 128 ∨ R.length = 32) :
    vbin 0 (R.take (R.length - 64)) * 18446744073709551616 + vbin 0 (R.drop (R.length - 64)) = vbin 0 R ∧ vbin 0 (R.take (R.length - 64)) < 18446744073709551616 ∧ vbin 0 (R.drop (R.length - 64)) < 18446744073709551616 := by
  rcases h with h | h
  · have h1 := vbin_cut R 64
    have h2 : (R.drop 64).length = 64 := by rw [List.length_drop, h]
    have h3 : (R.take 64).length = 64 := by rw [List.length_take, h]; rfl
    have h4 := vbin_lt0 (R.drop 64)
    have h5 := vbin_lt0 (R.take 64)
    rw [h2] at h1 h4
    rw [h3] at h5
    rw [h, show (128 : Nat) - 64 = 64 from rfl]
    omega
  · rw [h, show (32 : Nat) - 64 = 0 from rfl, List.take_zero, List.drop_zero]
    have := vbin_lt0 R
    rw [h] at this
    simp only [vbin]
    omega
end Go.Proofs.YtollaiabcnmebaaGreatDoor

namespace Go.Proofs.YtollaiabcnmebaaGreatDoor

/-- The number that digits tell; none where a sign is no digit. -/
def rdn (acc : Nat) : List UInt8 → Option Nat
  | [] => some acc
  | c :: r => if 48 ≤ c.toNat ∧ c.toNat ≤ 57 then rdn (10 * acc + c.toNat - 48) r else none
/-- A number of at most four digits, no nought ahead, as the document reads it. -/
def docN (l : List UInt8) : Option Nat := if 1 ≤ l.length ∧ l.length ≤ 4 then (match rdn 0 l with | some n => if digs 10 n = l then some n else none | none => none) else none

theorem rdn_lt : ∀ (l : List UInt8) (acc n k : Nat), acc < 10 ^ k → rdn acc l = some n → n < 10 ^ (k + l.length)
  | [], acc, n, k, h, e => by simp [rdn] at e; subst e; simpa using h
  | c :: r, acc, n, k, h, e => by
    rw [rdn] at e
    split at e
    · rename_i hc
      have := rdn_lt r _ n (k + 1) (by rw [Nat.pow_succ]; omega) e
      rw [List.length_cons, show k + (r.length + 1) = k + 1 + r.length by omega]; exact this
    · cases e
theorem rdn_pu : ∀ (l : List UInt8) (acc k : Nat), acc < 10 ^ k → k + l.length ≤ 9 → rdn acc l = match pu 10 2147483647 acc l with | .ok n => some n | .error _ => none
  | [], acc, k, _, _ => by simp [rdn, pu]
  | c :: r, acc, k, h, hk => by
    have h9 : 10 ^ (k + 1) ≤ 10 ^ 9 := Nat.pow_le_pow_right (by decide) (by simp at hk; omega)
    have hs : 10 ^ (k + 1) = 10 ^ k * 10 := Nat.pow_succ ..
    rw [rdn, pu]
    by_cases hd : dig c < 10
    · obtain ⟨a, b, e⟩ := dig_dec c hd
      rw [if_pos ⟨a, b⟩, if_neg (by omega), if_neg (by omega), rdn_pu r _ (k + 1) (by omega) (by simp at hk ⊢; omega), e]
      rw [show 10 * acc + c.toNat - 48 = acc * 10 + (c.toNat - 48) by omega]
    · rw [if_pos (show 10 ≤ dig c by omega), if_neg]
      rintro ⟨a, b⟩
      apply hd
      unfold dig; rw [if_pos ⟨a, b⟩]; omega
theorem digs10_len : ∀ (k n : Nat), n < 10 ^ (k + 1) → (digs 10 n).length ≤ k + 1
  | 0, n, h => by rw [digs_eq, dif_pos (.inl (by simpa using h))]; simp
  | k + 1, n, h => by
    rw [digs_eq]
    split
    · simp
    · have := digs10_len k (n / 10) (by rw [Nat.pow_succ] at h; omega)
      simp; omega
theorem hexd_of (c : UInt8) (k : Nat) (h : 48 ≤ c.toNat) (h2 : c.toNat ≤ 57) (e : k = c.toNat - 48) : hexd k = c := by
  rw [hexd10 k (by omega)]; exact u8_of c k h e
/-- Digits without a nought ahead are the digits of their number. -/
theorem rdn_digs : ∀ (l : List UInt8) (acc n : Nat), 0 < acc → rdn acc l = some n → digs 10 n = digs 10 acc ++ l
  | [], acc, n, _, e => by simp [rdn] at e; subst e; simp
  | c :: r, acc, n, h0, e => by
    rw [rdn] at e
    split at e
    · rename_i hc
      rw [rdn_digs r _ n (by omega) e]
      have h1 : digs 10 (10 * acc + c.toNat - 48) = digs 10 acc ++ [c] := by
        rw [digs_eq, dif_neg (by omega), show (10 * acc + c.toNat - 48) / 10 = acc by omega, hexd_of c _ hc.1 hc.2 (by omega)]
      rw [h1]; simp
    · cases e
theorem rdn_one (c : UInt8) (r : List UInt8) (n : Nat) (h : rdn 0 (c :: r) = some n) : (c ≠ 48 ∨ r = [] → digs 10 n = c :: r) ∧ (c = 48 → n < 10 ^ r.length ∨ r = []) := by
  rw [rdn] at h
  split at h
  · rename_i hc
    rw [show 10 * 0 + c.toNat - 48 = c.toNat - 48 by omega] at h
    constructor
    · rintro (h1 | h1)
      · have hne := u8_ne h1
        have h48 : (48 : UInt8).toNat = 48 := rfl
        rw [rdn_digs r _ n (by omega) h, digs_eq, dif_pos (.inl (by omega)), hexd_of c _ hc.1 hc.2 (by omega)]; rfl
      · subst h1
        simp [rdn] at h
        rw [← h, digs_eq, dif_pos (.inl (by omega)), hexd_of c _ hc.1 hc.2 (by omega)]
    · intro h1
      subst h1
      have := rdn_lt r 0 n 0 (by decide) (by simpa using h)
      left; simpa using this
  · cases h
theorem docN_eq (l : List UInt8) : docN l = nread l 4 := by
  unfold docN nread puS
  cases l with
  | nil => simp
  | cons c r =>
    by_cases h4 : 4 < (c :: r).length
    · rw [if_neg (by omega), if_pos (.inr (.inl h4))]
    · rw [if_pos (by simp at h4 ⊢; omega)]
      have hp := rdn_pu (c :: r) 0 0 (by decide) (by simp at h4 ⊢; omega)
      by_cases hz : (c :: r).head? = some 48 ∧ (c :: r) ≠ [48]
      · rw [if_pos (.inr (.inr hz))]
        have hc : c = 48 := by simpa using hz.1
        have hr : r ≠ [] := fun e => hz.2 (by rw [hc, e])
        cases hd : rdn 0 (c :: r) with
        | none => rfl
        | some n =>
          have := (rdn_one c r n hd).2 hc
          have hn : n < 10 ^ r.length := by rcases this with h | h; exact h; exact absurd h hr
          have hl : ¬ digs 10 n = c :: r := by
            intro e
            have h1 : 0 < r.length := List.length_pos_iff.2 hr
            have h2 := digs10_len (r.length - 1) n (by rw [show r.length - 1 + 1 = r.length by omega]; exact hn)
            rw [e] at h2; simp at h2; omega
          simp [hl]
      · rw [if_neg (by rintro (h | h | h); exact absurd h (by simp); exact h4 h; exact hz h), if_neg (by simp)]
        cases hd : rdn 0 (c :: r) with
        | none =>
          rw [hd] at hp
          cases hq : pu 10 2147483647 0 (c :: r) with
          | ok n => rw [hq] at hp; cases hp
          | error k => rfl
        | some n =>
          rw [hd] at hp
          have he := (rdn_one c r n hd).1 (by
            by_cases hc : c = 48
            · right
              by_cases hr : r = []
              · exact hr
              · exfalso; apply hz; rw [hc]; exact ⟨rfl, by intro e; injection e with _ e; exact hr e⟩
            · exact .inl hc)
          cases hq : pu 10 2147483647 0 (c :: r) with
          | ok m => rw [hq] at hp; simp [he]; injection hp
          | error k => rw [hq] at hp; cases hp
end Go.Proofs.YtollaiabcnmebaaGreatDoor

namespace Go.Proofs.YtollaiabcnmebaaGreatDoor
open Go.RowKit

/-- Three cells of a variable that may be written. -/
def HasF (w : World) (p : Nat) (x y z : Value) : Prop := Has3 w p x y z ∧ ∀ o, w.frozen? ⟨p, o, none⟩ = false
theorem HasF.below {W w' : World} {p : Nat} {x y z : Value} (h : HasF W p x y z) (hb : Below W.heap.size W w') : HasF w' p x y z :=
  ⟨h.1.below hb, fun o => by rw [(bcell hb).2 p o h.1.2.2.2]; exact h.2 o⟩
theorem HasF.new (W : World) (x y z : Value) (t : Nat) : HasF (W.alloc (.cells #[x, y, z] t)) W.heap.size x y z :=
  ⟨Has3.new W x y z t, fun o => World.frozen?_alloc_at _ _ _ _ rfl⟩
theorem HasF.alloc {W : World} {p : Nat} {x y z : Value} (h : HasF W p x y z) (o : Obj) : HasF (W.alloc o) p x y z := h.below (bal (Below.refl _ _) _)
theorem HasF.drew {W : World} {p : Nat} {x y z : Value} (h : HasF W p x y z) : HasF W.drew p x y z := h
theorem HasF.other {W : World} {p q : Nat} {x y z : Value} (h : HasF W p x y z) (hn : p ≠ q) (a b c : Value) :
    HasF (((W.setCell ⟨q, 0, none⟩ a).setCell ⟨q, 1, none⟩ b).setCell ⟨q, 2, none⟩ c) p x y z := by
  have ne : ∀ i j : Nat, (⟨q, i, none⟩ : Addr) ≠ ⟨p, j, none⟩ := by intro i j e; injection e with e; exact hn e.symm
  obtain ⟨⟨h0, h1, h2, h3⟩, h4⟩ := h
  refine ⟨⟨?_, ?_, ?_, by simpa using h3⟩, fun o => by rw [World.frozen?_setCell, World.frozen?_setCell, World.frozen?_setCell]; exact h4 o⟩
  · rw [World.cell?_setCell_other (h := ne 2 0), World.cell?_setCell_other (h := ne 1 0), World.cell?_setCell_other (h := ne 0 0)]; exact h0
  · rw [World.cell?_setCell_other (h := ne 2 1), World.cell?_setCell_other (h := ne 1 1), World.cell?_setCell_other (h := ne 0 1)]; exact h1
  · rw [World.cell?_setCell_other (h := ne 2 2), World.cell?_setCell_other (h := ne 1 2), World.cell?_setCell_other (h := ne 0 2)]; exact h2
theorem HasF.store {W : World} {p : Nat} {x y z : Value} (h : HasF W p x y z) (a b c : Value) :
    HasF (((W.setCell ⟨p, 0, none⟩ a).setCell ⟨p, 1, none⟩ b).setCell ⟨p, 2, none⟩ c) p a b c := by
  obtain ⟨⟨h0, h1, h2, h3⟩, h4⟩ := h
  have ne : ∀ i j : Nat, i ≠ j → (⟨p, i, none⟩ : Addr) ≠ ⟨p, j, none⟩ := by intro i j hij e; injection e with _ e; exact hij e
  refine ⟨⟨?_, ?_, ?_, by simpa using h3⟩, fun o => by rw [World.frozen?_setCell, World.frozen?_setCell, World.frozen?_setCell]; exact h4 o⟩
  · rw [World.cell?_setCell_other (h := ne 2 0 (by decide)), World.cell?_setCell_other (h := ne 1 0 (by decide))]
    exact World.cell?_setCell_same _ _ _ h0
  · rw [World.cell?_setCell_other (h := ne 2 1 (by decide))]
    exact World.cell?_setCell_same _ _ _ (u := y) (by rw [World.cell?_setCell_other (h := ne 0 1 (by decide))]; exact h1)
  · exact World.cell?_setCell_same _ _ _ (u := z) (by rw [World.cell?_setCell_other (h := ne 1 2 (by decide)), World.cell?_setCell_other (h := ne 0 2 (by decide))]; exact h2)
end Go.Proofs.YtollaiabcnmebaaGreatDoor
