/- addr.readFour: four bytes of a text. -/
import Derived.Test.YtghbonlignmdoaaGreatDoorRd1
import Derived.Test.YtghbonlignmdoaaGreatDoorSpl
namespace Go.Proofs.YtghbonlignmdoaaGreatDoor
open Go.RowKit

def fourAcc (acc : Nat) : List (List UInt8) → Option Nat
  | [] => some acc
  | w :: r => match nread w 3 with | some n => if 255 < n then none else fourAcc (acc * 256 + n) r | none => none

/-- Four bytes of a text. -/
def rfour (l : List UInt8) : Option Nat := if (spl 46 l).length = 4 then fourAcc 0 (spl 46 l) else none

theorem spl_len (c : UInt8) : ∀ (l w : List UInt8), w ∈ spl c l → w.length ≤ l.length
  | [], w, h => by simp [spl] at h; simp [h]
  | b :: l, w, h => by
    rw [spl] at h
    have ih := spl_len c l
    split at h
    · rcases List.mem_cons.1 h with rfl | h
      · simp
      · have := ih w h; simp; omega
    · split at h
      · simp at h; simp [h]
      · rename_i x r e
        rw [e] at ih
        rcases List.mem_cons.1 h with rfl | h
        · have := ih x (by simp); simp; omega
        · have := ih w (by simp [h]); simp; omega

theorem or8 (a n : Int) (h0 : 0 ≤ a) (h1 : a < 72057594037927936) (h2 : 0 ≤ n) (h3 : n < 256) : bits .or .u64 (a * 256) n = a * 256 + n := by
  obtain ⟨a, rfl⟩ := Int.eq_ofNat_of_zero_le h0
  obtain ⟨n, rfl⟩ := Int.eq_ofNat_of_zero_le h2
  have e : ((a : Int) * 256) = ((a * 256 : Nat) : Int) := by omega
  rw [e, u64_or_nat _ _ (by omega) (by omega)]
  have := Nat.two_pow_add_eq_or_of_lt (i := 8) (b := n) (by omega) a
  rw [show a * 256 = 2 ^ 8 * a from by omega, ← this]
  omega

set_option maxHeartbeats 4000000 in
set_option maxRecDepth 100000 in
theorem readFour_any (s : ByteArray) (w : World) (hg : Good w) (hs : s.size ≤ 1000) :
    Calls Tryz.prog 76 #[.string s] w fun e w' => e = rdEnd ((rfour s.data.toList).map fun n : Nat => Value.int .u64 (n : Int)) ∧ Below w.heap.size w w' := by
  have hgu : Hid (∀ w : World, Calls Tryz.prog 73 #[] w fun e w' => e = .panicked gaveUp ∧ w' = w) := fun w => giveUp_any w
  obtain ⟨m, hm⟩ := hg.maxlen
  have hS := Tryz.strings_Split s ⟨#[46]⟩ m w (by omega) hm (by simp [ByteArray.size])
  have hsp := splitB_spl 46 s
  have hcn := countB_spl 46 s
  have hlen := spl_len 46 s.data.toList
  have hsl := size_list s
  obtain ⟨ws, hws⟩ : ∃ ws, ws = Lib.splitB ⟨#[46]⟩ 0 (Lib.countB s ⟨#[46]⟩) s := ⟨_, rfl⟩
  rw [← hws] at hS hsp
  obtain ⟨N, hN⟩ : ∃ N, N = Lib.countB s ⟨#[46]⟩ + 1 := ⟨_, rfl⟩
  rw [← hN] at hS hcn
  clear hws hN hm
  have hwl : ws.length = N := by rw [hcn, ← hsp, List.length_map]
  have hpc : ∀ x ∈ ws, x.size ≤ 1000 := by
    intro x hx
    have := hlen x.data.toList (by rw [← hsp]; exact List.mem_map_of_mem hx)
    rw [size_list] at this; omega
  by_cases h4 : N = 4
  · have hF : rfour s.data.toList = fourAcc 0 (ws.map (·.data.toList)) := by rw [rfour, if_pos (by omega), hsp]
    rw [hF]
    subst h4
    clear hF hcn hlen hsl hsp
    have hb0 : Below w.heap.size w (w.alloc (.cells (ws.map Value.string).toArray 9)) := bal (Below.refl _ _) _
    have hcl : ∀ i (h : i < 4), (w.alloc (.cells (ws.map Value.string).toArray 9)).cell? ⟨w.heap.size, i, none⟩ = some (.string (ws[i]'(by omega))) := by
      intro i h
      simp [go_sem, hwl, h]
    have hsz : (w.alloc (.cells (ws.map Value.string).toArray 9)).heap.size = w.heap.size + 1 := by simp
    obtain ⟨W, hW⟩ : ∃ W, W = w.alloc (.cells (ws.map Value.string).toArray 9) := ⟨_, rfl⟩
    rw [← hW] at hS hb0 hcl hsz
    clear hW
    go_enter Tryz.func76, Tryz.ntmps76
    go_wp2_with fail
    refine hS.mono ?_
    rintro e w' ⟨rfl, rfl⟩
    go_wp2_with fail
    go_loopw [4, 17] (fun va vi wr => ∃ (k acc : Nat) (a : Int), va = .int .u64 a ∧ vi = .int .i64 k ∧ k ≤ 4 ∧ Below w'.heap.size w' wr ∧ Hid (a = (acc : Int) ∧ acc < 256 ^ k ∧ fourAcc 0 (ws.map (·.data.toList)) = fourAcc acc ((ws.map (·.data.toList)).drop k)))
      (fun _ vi _ => 4 - (intOf vi).toNat)
    case atStart => exact ⟨0, 0, 0, rfl, rfl, by omega, Below.refl _ _, rfl, by simp, rfl⟩
    case round =>
      obtain ⟨k, acc, a, rfl, rfl, hk, hb, hh⟩ := hrel
      by_cases hk4 : k < 4
      · obtain ⟨ha, hacc, hdec⟩ := hh.out
        clear hh
        have hc : wr.cell? ⟨w.heap.size, k, none⟩ = some (.string (ws[k]'(by omega))) := by rw [(bcell hb).1 _ _ (by omega), hcl k hk4]
        have hgr : Good wr := (hg.below hb0).below hb
        have hx := hpc _ (List.getElem_mem (show k < ws.length by omega))
        have hdrop : (ws.map (·.data.toList)).drop k = (ws[k]'(by omega)).data.toList :: (ws.map (·.data.toList)).drop (k + 1) := by
          rw [List.drop_eq_getElem_cons (by simp; omega)]; simp
        rw [hdrop] at hdec
        generalize ws[k]'(by omega) = x at hc hx hdec
        rw [fourAcc] at hdec
        have hRd : Hid (Calls Tryz.prog 51 #[.string x, .int .i64 3] wr fun e w' => e = .returned (nrT (nread x.data.toList 3)) ∧ Below wr.heap.size wr w') := read_any x 3 wr hgr (by omega) (by omega)
        have hA : acc < 16777216 := Nat.lt_of_lt_of_le hacc (by have : (256 : Nat) ^ k ≤ 256 ^ 3 := Nat.pow_le_pow_right (by decide) (by omega); omega)
        clear hcl hgr hS hdrop
        cases hn : nread x.data.toList 3 with
        | none =>
          rw [hn] at hdec hRd
          have HD : Hid (fourAcc 0 (ws.map (·.data.toList)) = none) := hdec
          clear hdec hn hacc ha hA
          go_wp2_with fail
          refine hRd.out.mono ?_
          rintro e w2 ⟨rfl, hb2⟩
          unfold nrT
          go_wp2_with fail
          refine (hgu.out _).mono ?_
          rintro e w3 ⟨rfl, rfl⟩
          go_wp2
          exact ⟨rfl, by rw [HD.out]; rfl, btr hb0 (btr hb hb2)⟩
        | some n =>
          rw [hn] at hdec hRd
          by_cases h255 : 255 < n
          · simp only [h255, if_true] at hdec
            have HD : Hid (fourAcc 0 (ws.map (·.data.toList)) = none) := hdec
            have hi : 255 < (n : Int) := by omega
            clear hdec hn hacc ha hA
            go_wp2_with fail
            refine hRd.out.mono ?_
            rintro e w2 ⟨rfl, hb2⟩
            unfold nrT
            go_wp2_with fail
            refine (hgu.out _).mono ?_
            rintro e w3 ⟨rfl, rfl⟩
            go_wp2
            exact ⟨rfl, by rw [HD.out]; rfl, btr hb0 (btr hb hb2)⟩
          · simp only [h255, if_false] at hdec
            have HD : Hid (a * 256 + (n : Int) = ((acc * 256 + n : Nat) : Int) ∧ acc * 256 + n < 256 ^ (k + 1) ∧ fourAcc 0 (ws.map (·.data.toList)) = fourAcc (acc * 256 + n) ((ws.map (·.data.toList)).drop (k + 1))) := ⟨by omega, by rw [Nat.pow_succ]; omega, hdec⟩
            have hi : (n : Int) ≤ 255 := by omega
            have hA0 : a < 16777216 := by omega
            have hA1 : 0 ≤ a := by omega
            have hor : Hid (bits .or .u64 (a * 256) (n : Int) = a * 256 + n) := or8 a (n : Int) hA1 (Int.lt_trans hA0 (by decide)) (Int.natCast_nonneg _) (Int.lt_of_le_of_lt hi (by decide))
            clear hdec hn hacc h255 ha hA
            go_wp2_with fail
            refine hRd.out.mono ?_
            rintro e w2 ⟨rfl, hb2⟩
            unfold nrT
            go_wp2_with fail
            go_roundw
            case rel => exact ⟨k + 1, acc * 256 + n, a * 256 + n, by rw [hor.out], by go_num, by omega, btr hb hb2, HD⟩
            case measure => simp [intOf]; omega
      · have hk5 : k = 4 := by omega
        subst hk5
        obtain ⟨ha, hacc, hdec⟩ := hh.out
        rw [List.drop_eq_nil_of_le (by simp; omega), fourAcc] at hdec
        have HD : Hid (fourAcc 0 (ws.map (·.data.toList)) = some acc) := hdec
        subst ha
        clear hdec hacc hh hS hcl
        go_wp2_with fail
        go_ret
        exact ⟨by rw [HD.out]; rfl, btr hb0 hb⟩
  · have hF : rfour s.data.toList = none := by rw [rfour, if_neg (by omega)]
    rw [hF]
    have h4' : ((N : Int) != 4) = true := by rw [bne_iff_ne]; omega
    go_enter Tryz.func76, Tryz.ntmps76
    go_wp2_with fail
    refine hS.mono ?_
    rintro e w' ⟨rfl, rfl⟩
    go_wp2_with fail
    refine (hgu.out _).mono ?_
    rintro e w2 ⟨rfl, rfl⟩
    go_wp2
    exact ⟨rfl, rfl, bal (Below.refl _ _) _⟩
end Go.Proofs.YtghbonlignmdoaaGreatDoor
