/- The document's answer: splitAt: a text cut at each such byte. -/
import Derived.Test.YtollaiabcnmebaaDoorRfM
set_option linter.unusedVariables false
set_option linter.unusedSimpArgs false
namespace Go.Proofs.YtollaiabcnmebaaDoor
open Go.RowKit

/-- The pieces, where the first one has begun already. -/
def splA (c : UInt8) (w l : List UInt8) : List (List UInt8) := match spl c l with | [] => [w] | x :: r => (w ++ x) :: r
theorem splA_nil (c : UInt8) (l : List UInt8) : splA c [] l = spl c l := by
  unfold splA
  split
  · rename_i h; exact absurd h (spl_ne c l)
  · rename_i h; rw [h]; rfl
theorem splA_end (c : UInt8) (w : List UInt8) : splA c w [] = [w] := by simp [splA, spl]
theorem splA_hit (c : UInt8) (w l : List UInt8) : splA c w (c :: l) = w :: splA c [] l := by
  rw [splA_nil]; simp [splA, spl]
theorem splA_on (c b : UInt8) (w l : List UInt8) (h : b ≠ c) : splA c w (b :: l) = splA c (w ++ [b]) l := by
  unfold splA
  rw [spl, if_neg h]
  split
  · rename_i h1; split at h1 <;> simp at h1
  · rename_i x r h1
    split at h1
    · rename_i h2; exact absurd h2 (spl_ne c l)
    · rename_i h2; injection h1 with h3 h4; subst h3 h4; rw [h2]; simp


theorem ext_list (s : ByteArray) (i j : Nat) : s.extract i j = ⟨((s.data.toList.drop i).take (j - i)).toArray⟩ := by
  apply ByteArray.ext
  rw [ByteArray.data_extract]
  apply Array.toList_inj.1
  rw [Array.toList_extract]
theorem str_slice (s : ByteArray) (i j : Nat) (W : World) (h1 : i ≤ j) (h2 : j ≤ s.size) (h3 : s.size ≤ 281474976710656) :
    (Instr.sliceAt 9 (.string s) (some (.int .i64 (i : Int))) (some (.int .i64 (j : Int))) none).run Tryd.prog W = .ok (.string ⟨((s.data.toList.drop i).take (j - i)).toArray⟩) W := by
  have a1 : (i : Int) ≤ (j : Int) := by omega
  have a2 : (j : Int) ≤ (s.size : Int) := by omega
  rw [← ext_list]
  simp [go_sem, a1, a2]

set_option maxHeartbeats 8000000 in
set_option maxRecDepth 100000 in
theorem splitAt_any (s : ByteArray) (c : UInt8) (w : World) (hs : s.size ≤ 1048576) :
    Calls Tryd.prog 38 #[.string s, .int .u8 (c.toNat : Int)] w fun e w' => ∃ v, e = .returned v ∧ w'.ownsRow w.heap.size 9 1 v (spl c s.data.toList).length (strs (spl c s.data.toList)) ∧ Below w.heap.size w w' := by
  obtain ⟨i0, hi0, hz0, hz1, hz2⟩ := info_parts infoStr
  have hl := size_list s
  obtain ⟨N, hN⟩ : ∃ N, N = s.size := ⟨_, rfl⟩
  have HN : Hid (N = s.size) := hN
  have hN20 : N ≤ 1048576 := by omega
  go_enter Tryd.func38, Tryd.ntmps38
  go_wp2_with fail
  go_loopw [5, 6, 7] (fun vs vw vi wr => ∃ (k : Nat) (out : List (List UInt8)) (x : List UInt8), vi = .int .i64 k ∧ vw = .string ⟨x.toArray⟩ ∧ k ≤ N ∧ x.length + out.length ≤ k ∧ Below w.heap.size w wr ∧ wr.ownsRow w.heap.size 9 1 vs out.length (strs out) ∧
      Hid (spl c s.data.toList = out ++ splA c x (s.data.toList.drop k)))
    (fun _ _ vi _ => N - (intOf vi).toNat)
  case atStart => exact ⟨0, [], [], rfl, rfl, Nat.zero_le _, by simp, Below.refl _ _, World.ownsRow_nil _ _ _ _, by rw [List.nil_append, splA_nil]; rfl⟩
  case round =>
    obtain ⟨k, out, x, rfl, rfl, hk, hxo, hb, hown, hh⟩ := hrel
    have hN := HN.out
    have hzz := hb.size
    by_cases hkN : k < N
    · have hks : k < s.size := by omega
      have hki : (k : Int) < (s.size : Int) := by omega
      have hk0 : (0 : Int) ≤ (k : Int) := by omega
      have hsk : s[k]? = some s[k] := by simp [hks]
      have hd := hh.out
      rw [List.drop_eq_getElem_cons (show k < s.data.toList.length by omega), data_get s k hks] at hd
      by_cases hc : s[k] = c
      · rw [hc, splA_hit, show out ++ x :: splA c [] (s.data.toList.drop (k + 1)) = (out ++ [x]) ++ splA c [] (s.data.toList.drop (k + 1)) by simp] at hd
        have HD : Hid (spl c s.data.toList = (out ++ [x]) ++ splA c [] (s.data.toList.drop (k + 1))) := hd
        have hcc : (s[k].toNat : Int) = (c.toNat : Int) := by rw [hc]
        clear hd hh hc
        have HO : Hid (wr.ownsRow w.heap.size 9 1 u5 out.length (strs out)) := hown
        clear hown
        go_wp2_with (at_builtin; refine wpList_append_own _ rfl _ _ 59 rfl w.heap.size 9 i0 (.string ⟨#[]⟩) 1 16 Tryd.underlying59 hi0 hz0 hz1 hz2 rfl (by decide) _ _ _ rfl (HO.out.alloc _) ⟨wr.heap.size, 0, none⟩ 1 1 [.string ⟨x.toArray⟩] rfl rfl ?c1 ?c2 ?c3 ?c4 ?c5 ?_)
        case c1 =>
          intro j u hj
          match j, hj with
          | 0, hj => simp at hj; subst hj; simp [Addr.add]
        case c2 => intro u hu; simp at hu; subst hu; rfl
        case c3 => unfold maxLen; omega
        case c4 => omega
        case c5 => simp; omega
        intro v' w3 hown' hgrow _
        have hb3 : Below w.heap.size w w3 := (bal hb _).grown hgrow (by simp; omega) (fun k hk => (HO.out.lt k hk).1)
        have HR : Hid (w3.ownsRow w.heap.size 9 1 v' (out ++ [x]).length (strs (out ++ [x]))) := by
          rw [List.length_append, show strs (out ++ [x]) = strs out ++ [.string ⟨x.toArray⟩] by simp [strs]]; exact hown'
        clear hown' hgrow HO
        go_wp2
        exact ⟨⟨k + 1, out ++ [x], [], by go_num, rfl, by omega, by simp; omega, hb3, HR.out, HD⟩, by simp [intOf]; omega⟩
      · rw [splA_on c s[k] x _ hc] at hd
        have HD : Hid (spl c s.data.toList = out ++ splA c (x ++ [s[k]]) (s.data.toList.drop (k + 1))) := hd
        have hcc : ¬ ((s[k].toNat : Int) = (c.toNat : Int)) := fun e => hc (UInt8.toNat_inj.1 (by omega))
        have hsl : ∀ W : World, (Instr.sliceAt 9 (.string s) (some (.int .i64 (k : Int))) (some (.int .i64 ((k : Int) + 1))) none).run Tryd.prog W = .ok (.string ⟨#[s[k]]⟩) W := by
          intro W
          have h := str_slice s k (k + 1) W (by omega) (by omega) (by omega)
          rw [show (((k + 1 : Nat)) : Int) = (k : Int) + 1 by omega, List.drop_eq_getElem_cons (show k < s.data.toList.length by omega), data_get s k hks, Nat.add_sub_cancel_left] at h
          exact h
        have hp : ∀ W : World, (Op.stringOp .add ⟨x.toArray⟩ ⟨#[s[k]]⟩).run Tryd.prog W = .ok (.string ⟨(x ++ [s[k]]).toArray⟩) W := fun W =>
          run_string_add_lists (P := Tryd.prog) W x [s[k]] (by omega) (by simp)
        clear hd hh hc
        go_wp2_with fail
        exact ⟨⟨k + 1, out, x ++ [s[k]], by go_num, rfl, by omega, by simp; omega, hb, hown, HD⟩, by simp [intOf]; omega⟩
    · have hki : ¬ (k : Int) < (s.size : Int) := by omega
      have hd := hh.out
      rw [List.drop_eq_nil_of_le (by omega), splA_end] at hd
      have HD : Hid (spl c s.data.toList = out ++ [x]) := hd
      clear hd hh
      have HO : Hid (wr.ownsRow w.heap.size 9 1 u5 out.length (strs out)) := hown
      clear hown
      go_wp2_with (at_builtin; refine wpList_append_own _ rfl _ _ 59 rfl w.heap.size 9 i0 (.string ⟨#[]⟩) 1 16 Tryd.underlying59 hi0 hz0 hz1 hz2 rfl (by decide) _ _ _ rfl (HO.out.alloc _) ⟨wr.heap.size, 0, none⟩ 1 1 [.string ⟨x.toArray⟩] rfl rfl ?c1 ?c2 ?c3 ?c4 ?c5 ?_)
      case c2 => rfl
      case c3 => unfold maxLen; omega
      case c4 => omega
      case c5 => omega
      intro v' w3 hown' hgrow _
      have hb3 : Below w.heap.size w w3 := (bal hb _).grown hgrow (by simp; omega) (fun k hk => (HO.out.lt k hk).1)
      have HR : Hid (w3.ownsRow w.heap.size 9 1 v' (spl c s.data.toList).length (strs (spl c s.data.toList))) := by
        rw [HD.out, List.length_append, show strs (out ++ [x]) = strs out ++ [.string ⟨x.toArray⟩] by simp [strs]]; exact hown'
      clear hown' hgrow HO
      go_wp2
      go_ret
      exact ⟨_, rfl, HR.out, hb3⟩
end Go.Proofs.YtollaiabcnmebaaDoor
