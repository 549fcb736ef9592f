/- addr.readGroups: groups of a text, maybe ended by four bytes. -/
import Derived.Test.YtghbonlignmdoaaGreatDoorRd4
namespace Go.Proofs.YtghbonlignmdoaaGreatDoor
open Go.RowKit

theorem own_below {w w' : World} {base : Nat} {e : TypeId} {size : Nat} {v : Value} {n : Nat} {xs : List Value} (h : w.ownsRow base e size v n xs) (hb : Below w.heap.size w w') : w'.ownsRow base e size v n xs := by
  obtain ⟨h1, h2⟩ := h
  refine ⟨h1, ?_⟩
  rcases h2 with h2 | ⟨g, cap, cur, hv, hg, hc, h3⟩
  · exact .inl h2
  · have hlt : g < w.heap.size := by
      rcases Nat.lt_or_ge g w.heap.size with h | h
      · exact h
      · rw [Array.getElem?_eq_none h] at hc; cases hc
    exact .inr ⟨g, cap, cur, hv, hg, by rw [hb.block g hlt]; exact hc, h3⟩

theorem own_base {w : World} {base b2 : Nat} {e : TypeId} {size : Nat} {v : Value} {n : Nat} {xs : List Value} (h : w.ownsRow base e size v n xs) (hb : b2 ≤ base) : w.ownsRow b2 e size v n xs := by
  obtain ⟨h1, h2⟩ := h
  refine ⟨h1, ?_⟩
  rcases h2 with h2 | ⟨g, cap, cur, hv, hg, h3⟩
  · exact .inl h2
  · exact .inr ⟨g, cap, cur, hv, Nat.le_trans hb hg, h3⟩

/-- A list of numbers, as the cells of its row. -/
def u64s (l : List Nat) : List Value := l.map fun n : Nat => Value.int .u64 (n : Int)

/-- Groups of words; the last word may tell four bytes. -/
def rgs (mayEnd : Bool) : List (List UInt8) → Option (List Nat)
  | [] => none
  | [x] => if mayEnd = true ∧ (46 : UInt8) ∈ x then (rfour x).map fun n => [n / 65536, n % 65536] else (rgrp x).map fun n => [n]
  | x :: y :: r => (rgrp x).bind fun g => (rgs mayEnd (y :: r)).map (g :: ·)

/-- Groups of a text. -/
def rgroups (mayEnd : Bool) (l : List UInt8) : Option (List Nat) := if l = [] then some [] else rgs mayEnd (spl 58 l)

/-- What the reader of groups comes to: a row of its own that holds them, or it gives up. -/
def rgEnd (o : Option (List Nat)) (B : Nat) (e : Ending) (w' : World) : Prop :=
  match o with
  | some gs => ∃ v, e = .returned v ∧ w'.ownsRow B 23 1 v gs.length (u64s gs)
  | none => e = .panicked gaveUp

theorem info64 : (Tryz.prog.info? 23).map (fun i => (i.zero, i.size, i.bytes)) = some (some (.int .u64 0), 1, 8) := by kernel_rfl

theorem indexByte_mem (c : UInt8) : ∀ l : List UInt8, -1 ≤ Lib.indexByte l c ∧ (0 ≤ Lib.indexByte l c ↔ c ∈ l)
  | [] => by simp [Lib.indexByte]
  | b :: l => by
    obtain ⟨h0, ih⟩ := indexByte_mem c l
    rw [Lib.indexByte]
    by_cases hb : b = c
    · subst hb; simp
    · have hbe : (b == c) = false := by simpa using hb
      rw [hbe]
      by_cases hm : Lib.indexByte l c = -1
      · rw [hm] at ih ⊢
        have : c ∉ l := fun h => by have := ih.2 h; omega
        simp [this, Ne.symm hb]
      · have hne : (Lib.indexByte l c == -1) = false := by simpa using hm
        rw [hne]
        have hp : c ∈ l := ih.1 (by omega)
        simp [hp]; omega

theorem contains_any (s : ByteArray) (w : World) :
    Calls Tryz.prog 74 #[.string s, .string ⟨#[46]⟩] w fun e w' => e = .returned (.bool (decide ((46 : UInt8) ∈ s.data.toList))) ∧ w' = w := by
  have := Tryz.strings_Contains_one s 46 w
  rw [show decide (0 ≤ Lib.indexByte s.data.toList 46) = decide ((46 : UInt8) ∈ s.data.toList) from decide_eq_decide.2 (indexByte_mem 46 _).2] at this
  exact this

theorem fourAcc_lt : ∀ (l : List (List UInt8)) (acc n : Nat), fourAcc acc l = some n → n < (acc + 1) * 256 ^ l.length
  | [], acc, n, h => by simp [fourAcc] at h; simp; omega
  | x :: r, acc, n, h => by
    rw [fourAcc] at h
    split at h
    · rename_i k e
      split at h
      · cases h
      · have := fourAcc_lt r _ _ h
        have h2 : (acc * 256 + k + 1) * 256 ^ r.length ≤ ((acc + 1) * 256) * 256 ^ r.length := Nat.mul_le_mul_right _ (by omega)
        rw [List.length_cons, Nat.pow_succ, Nat.mul_comm (256 ^ r.length) 256, ← Nat.mul_assoc]
        omega
    · cases h
theorem rfour_lt {l : List UInt8} {n : Nat} (h : rfour l = some n) : n < 4294967296 := by
  unfold rfour at h
  split at h
  · rename_i e
    have := fourAcc_lt _ _ _ h
    rw [e] at this
    omega
  · cases h
theorem and16 (n : Nat) (h : n < 18446744073709551616) : bits .and .u64 (n : Int) 65535 = (n : Int) % 65536 := by
  rw [show (65535 : Int) = ((65535 : Nat) : Int) from rfl, u64_and_nat _ _ h (by decide), show (65535 : Nat) = 2 ^ 16 - 1 from rfl, Nat.and_two_pow_sub_one_eq_mod]
  rfl

theorem rgs_one {m : Bool} {x : List UInt8} : rgs m [x] = if m = true ∧ (46 : UInt8) ∈ x then (rfour x).map fun n => [n / 65536, n % 65536] else (rgrp x).map fun n => [n] := rfl
theorem rgs_more {m : Bool} {x : List UInt8} {r : List (List UInt8)} (h : r ≠ []) : rgs m (x :: r) = (rgrp x).bind fun g => (rgs m r).map (g :: ·) := by
  cases r with
  | nil => exact absurd rfl h
  | cons y r => rfl

set_option maxHeartbeats 4000000 in
set_option maxRecDepth 100000 in
theorem readGroups_any (s : ByteArray) (may : Bool) (w : World) (hg : Good w) (hs : s.size ≤ 1000) :
    Calls Tryz.prog 92 #[.string s, .bool may] w fun e w' =>
      rgEnd (rgroups may s.data.toList) w.heap.size e w' ∧ Below w.heap.size w w' := by
  by_cases h0 : s.size = 0
  · have := empty_of h0
    subst this
    have hF : rgroups may (ByteArray.mk #[]).data.toList = some [] := by simp [rgroups]
    rw [hF]
    clear hF
    go_enter Tryz.func92, Tryz.ntmps92
    go_wp2_with fail
    go_ret
    exact ⟨⟨_, rfl, World.ownsRow_nil _ _ _ _⟩, Below.refl _ _⟩
  have hemp : s.toList.isEmpty = false := by
    rw [← decide_eq_emptyBytes]
    exact decide_eq_false (fun h => h0 (by rw [h]; rfl))
  obtain ⟨i0, hi, hz0, hz1, hz2⟩ := info_parts info64
  obtain ⟨m, hm⟩ := hg.maxlen
  have hS := Tryz.strings_Split s ⟨#[58]⟩ m w (by omega) hm (by simp [ByteArray.size])
  have hsp := splitB_spl 58 s
  have hcn := countB_spl 58 s
  have hlen := spl_len 58 s.data.toList
  have hsl := size_list s
  have hF : rgroups may s.data.toList = rgs may (spl 58 s.data.toList) := by
    rw [rgroups, if_neg]; intro h; rw [h] at hsl; simp at hsl; omega
  rw [hF]
  clear hF
  have hle := Lib.countB_le ⟨#[58]⟩ (by simp [ByteArray.size]) s.size s (Nat.le_refl _)
  obtain ⟨ws, hws⟩ : ∃ ws, ws = Lib.splitB ⟨#[58]⟩ 0 (Lib.countB s ⟨#[58]⟩) s := ⟨_, rfl⟩
  rw [← hws] at hS hsp
  obtain ⟨N, hN⟩ : ∃ N, N = Lib.countB s ⟨#[58]⟩ := ⟨_, rfl⟩
  rw [← hN] at hS hcn hle
  clear hws hN hm
  have hwl : ws.length = N + 1 := by rw [hcn, ← hsp, List.length_map]
  have hpc : ∀ x ∈ ws, x.size ≤ 1000 := by
    intro x hx
    have := hlen x.data.toList (by rw [← hsp]; exact List.mem_map_of_mem hx)
    rw [size_list] at this; omega
  have hNl : N ≤ 1000 := by omega
  rw [← hsp]
  clear hcn hlen hsl hsp hle
  have hb0 : Below w.heap.size w (w.alloc (.cells (ws.map Value.string).toArray 9)) := bal (Below.refl _ _) _
  have hcl : ∀ i (h : i < N + 1), (w.alloc (.cells (ws.map Value.string).toArray 9)).cell? ⟨w.heap.size, i, none⟩ = some (.string (ws[i]'(by omega))) := by
    intro i h
    simp [go_sem, hwl, h]
  have hsz : w.heap.size < (w.alloc (.cells (ws.map Value.string).toArray 9)).heap.size := by simp
  obtain ⟨W, hW⟩ : ∃ W, W = w.alloc (.cells (ws.map Value.string).toArray 9) := ⟨_, rfl⟩
  rw [← hW] at hS hb0 hcl hsz
  clear hW
  go_enter Tryz.func92, Tryz.ntmps92
  go_wp2_with fail
  refine hS.mono ?_
  rintro e w' ⟨rfl, rfl⟩
  go_wp2_with fail
  go_loopw [7, 22] (fun v vi wr => ∃ (k : Nat) (gs : List Nat), vi = .int .i64 k ∧ k ≤ N ∧ Below w'.heap.size w' wr ∧ wr.ownsRow w'.heap.size 23 1 v gs.length (u64s gs) ∧
      Hid (gs.length = k ∧ rgs may (ws.map (·.data.toList)) = (rgs may ((ws.map (·.data.toList)).drop k)).map (gs ++ ·)))
      (fun _ vi _ => N - (intOf vi).toNat)
  case atStart => exact ⟨0, [], rfl, by omega, Below.refl _ _, World.ownsRow_nil _ _ _ _, rfl, by simp⟩
  case round =>
    obtain ⟨k, gs, rfl, hk, hb, hown, hh⟩ := hrel
    obtain ⟨hgl, hdec⟩ := hh.out
    have hc : wr.cell? ⟨w.heap.size, k, none⟩ = some (.string (ws[k]'(by omega))) := by rw [(bcell hb).1 _ _ (by omega), hcl k (by omega)]
    have hgr : Good wr := (hg.below hb0).below hb
    have hx := hpc _ (List.getElem_mem (show k < ws.length by omega))
    have hdrop : (ws.map (·.data.toList)).drop k = (ws[k]'(by omega)).data.toList :: (ws.map (·.data.toList)).drop (k + 1) := by
      rw [List.drop_eq_getElem_cons (by simp; omega)]; simp
    rw [hdrop] at hdec
    by_cases hkN : k < N
    · generalize ws[k]'(by omega) = x at hc hx hdec
      rw [rgs_more (by intro h; have := congrArg List.length h; simp at this; omega)] at hdec
      have hRd : Hid (Calls Tryz.prog 107 #[.string x] wr fun e w' => e = rdEnd ((rgrp x.data.toList).map fun n : Nat => Value.int .u64 (n : Int)) ∧ Below wr.heap.size wr w') := readGroup_any x wr hgr (by omega)
      have hbb : w'.heap.size ≤ wr.heap.size := hb.size
      clear hcl hgr hS hdrop hh
      cases hn : rgrp x.data.toList with
      | none =>
        rw [hn] at hdec
        have HD : Hid (rgs may (ws.map (·.data.toList)) = none) := hdec
        have Hn : Hid (rgrp x.data.toList = none) := hn
        clear hdec hn
        go_wp2_with fail
        refine hRd.out.mono ?_
        rintro e w2 ⟨he, hb2⟩
        rw [Hn.out] at he
        obtain rfl : e = .panicked gaveUp := he
        go_wp2
        exact ⟨rfl, by rw [HD.out]; rfl, btr hb0 (btr hb hb2)⟩
      | some n =>
        rw [hn] at hdec
        have HD : Hid ((gs ++ [n]).length = k + 1 ∧ rgs may (ws.map (·.data.toList)) = (rgs may ((ws.map (·.data.toList)).drop (k + 1))).map ((gs ++ [n]) ++ ·)) := by
          refine ⟨by simp; omega, ?_⟩
          rw [hdec]; simp; rfl
        have Hn : Hid (rgrp x.data.toList = some n) := hn
        have Hgl : Hid (gs.length = k) := hgl
        clear hdec hn hgl
        go_wp2_with fail
        refine hRd.out.mono ?_
        rintro e w2 ⟨he, hb2⟩
        rw [Hn.out] at he
        obtain rfl : e = .returned (.int .u64 (n : Int)) := he
        have hown2 := own_below hown hb2
        go_wp2_with (at_builtin; refine wpList_append_own _ rfl _ _ 88 rfl w'.heap.size 23 i0 (.int .u64 0) 1 8 Tryz.underlying88 hi hz0 hz1 hz2 rfl (by decide) _ _ _ rfl (hown2.alloc _) ⟨w2.heap.size, 0, none⟩ 1 1 [.int .u64 (n : Int)] rfl rfl ?c1 ?c2 ?c3 ?c4 ?c5 ?_)
        case c1 =>
          intro j u hj
          match j, hj with
          | 0, hj => simp at hj; subst hj; simp [Addr.add]
        case c2 => intro u hu; simp at hu; subst hu; rfl
        case c3 => have := Hgl.out; unfold maxLen; omega
        case c4 => have := Hgl.out; omega
        case c5 => have := hb2.size; simp; omega
        intro v' w3 hown' hgrow _
        have hb3 : Below w'.heap.size w' w3 := (bal (btr hb hb2) _).grown hgrow (by have := hb2.size; simp; omega) (fun k hk => (hown2.lt k hk).1)
        have HR : Hid (w3.ownsRow w'.heap.size 23 1 v' (gs ++ [n]).length (u64s (gs ++ [n]))) := by
          have e1 : (gs ++ [n]).length = gs.length + 1 := by simp
          have e2 : u64s (gs ++ [n]) = u64s gs ++ [.int .u64 (n : Int)] := by simp [u64s]
          rw [e1, e2]; exact hown'
        clear hown' hgrow hown hown2
        go_wp2
        go_roundw
        case rel => exact ⟨k + 1, gs ++ [n], by go_num, by omega, hb3, HR, HD⟩
        case measure => simp [intOf]; omega
    · have hk5 : k = N := by omega
      subst hk5
      have hd0 : (ws.map (·.data.toList)).drop (k + 1) = [] := List.drop_eq_nil_of_le (by simp; omega)
      rw [hd0, rgs_one] at hdec
      generalize ws[k]'(by omega) = x at hc hx hdec
      have hRd : Hid (Calls Tryz.prog 107 #[.string x] wr fun e w' => e = rdEnd ((rgrp x.data.toList).map fun n : Nat => Value.int .u64 (n : Int)) ∧ Below wr.heap.size wr w') := readGroup_any x wr hgr (by omega)
      have hR4 : Hid (Calls Tryz.prog 76 #[.string x] wr fun e w' => e = rdEnd ((rfour x.data.toList).map fun n : Nat => Value.int .u64 (n : Int)) ∧ Below wr.heap.size wr w') := readFour_any x wr hgr (by omega)
      have hCo : Hid (Calls Tryz.prog 74 #[.string x, .string ⟨#[46]⟩] wr fun e w' => e = .returned (.bool (decide ((46 : UInt8) ∈ x.data.toList))) ∧ w' = wr) := contains_any x wr
      have hbb : w'.heap.size ≤ wr.heap.size := hb.size
      clear hcl hgr hS hdrop hh hd0
      by_cases hdot : may = true ∧ (46 : UInt8) ∈ x.data.toList
      · rw [if_pos hdot] at hdec
        obtain ⟨rfl, hd⟩ := hdot
        have Hd : Hid (decide ((46 : UInt8) ∈ x.data.toList) = true) := by simp [Hid, hd]
        clear hd hRd
        cases hn : rfour x.data.toList with
        | none =>
          rw [hn] at hdec
          have HD : Hid (rgs true (ws.map (·.data.toList)) = none) := hdec
          have Hn : Hid (rfour x.data.toList = none) := hn
          clear hdec hn
          go_wp2_with fail
          refine hCo.out.mono ?_
          rintro e w2 ⟨rfl, rfl⟩
          rw [Hd.out]
          go_wp2_with fail
          refine hR4.out.mono ?_
          rintro e w2 ⟨he, hb2⟩
          rw [Hn.out] at he
          obtain rfl : e = .panicked gaveUp := he
          go_wp2
          exact ⟨rfl, by rw [HD.out]; rfl, btr hb0 (btr hb hb2)⟩
        | some n =>
          rw [hn] at hdec
          have HD : Hid (rgs true (ws.map (·.data.toList)) = some (gs ++ [n / 65536, n % 65536])) := hdec
          have Hn : Hid (rfour x.data.toList = some n) := hn
          have Hgl : Hid (gs.length = k) := hgl
          clear hdec hn hgl
          go_wp2_with fail
          refine hCo.out.mono ?_
          rintro e w2 ⟨rfl, rfl⟩
          rw [Hd.out]
          go_wp2_with fail
          refine hR4.out.mono ?_
          rintro e w2 ⟨he, hb2⟩
          rw [Hn.out] at he
          obtain rfl : e = .returned (.int .u64 (n : Int)) := he
          have hown2 := own_below hown hb2
          go_wp2_with (at_builtin; refine wpList_append_own _ rfl _ _ 88 rfl w'.heap.size 23 i0 (.int .u64 0) 1 8 Tryz.underlying88 hi hz0 hz1 hz2 rfl (by decide) _ _ _ rfl (hown2.alloc _) ⟨w2.heap.size, 0, none⟩ 2 2 [.int .u64 ((n : Int) / 65536), .int .u64 (bits .and .u64 (n : Int) 65535)] rfl rfl ?c1 ?c2 ?c3 ?c4 ?c5 ?_)
          case c1 =>
            intro j u hj
            match j, hj with
            | 0, hj => simp at hj; subst hj; simp [Addr.add]
            | 1, hj => simp at hj; subst hj; simp [Addr.add]
          case c2 => intro u hu; simp at hu; rcases hu with rfl | rfl <;> rfl
          case c3 => have := Hgl.out; unfold maxLen; omega
          case c4 => have := Hgl.out; omega
          case c5 => have := hb2.size; simp; omega
          intro v' w3 hown' hgrow _
          have hb3 : Below w'.heap.size w' w3 := (bal (btr hb hb2) _).grown hgrow (by have := hb2.size; simp; omega) (fun k hk => (hown2.lt k hk).1)
          have HR : Hid (w3.ownsRow w.heap.size 23 1 v' (gs ++ [n / 65536, n % 65536]).length (u64s (gs ++ [n / 65536, n % 65536]))) := by
            have e1 : (gs ++ [n / 65536, n % 65536]).length = gs.length + 2 := by simp
            have e2 : u64s (gs ++ [n / 65536, n % 65536]) = u64s gs ++ [.int .u64 ((n : Int) / 65536), .int .u64 (bits .and .u64 (n : Int) 65535)] := by
              rw [and16 n (by have := rfour_lt Hn.out; omega)]; simp [u64s]
            rw [e1, e2]; exact own_base hown' (by omega)
          clear hown' hgrow hown hown2
          go_wp2
          go_ret
          exact ⟨by rw [HD.out]; exact ⟨_, rfl, HR⟩, btr hb0 hb3⟩
      · rw [if_neg hdot] at hdec
        clear hR4
        cases hn : rgrp x.data.toList with
        | none =>
          rw [hn] at hdec
          have HD : Hid (rgs may (ws.map (·.data.toList)) = none) := hdec
          have Hn : Hid (rgrp x.data.toList = none) := hn
          clear hdec hn
          cases may
          · go_wp2_with fail
            refine hRd.out.mono ?_
            rintro e w2 ⟨he, hb2⟩
            rw [Hn.out] at he
            obtain rfl : e = .panicked gaveUp := he
            go_wp2
            exact ⟨rfl, by rw [HD.out]; rfl, btr hb0 (btr hb hb2)⟩
          · have Hd : Hid (decide ((46 : UInt8) ∈ x.data.toList) = false) := by simp [Hid]; simpa using hdot
            clear hdot
            go_wp2_with fail
            refine hCo.out.mono ?_
            rintro e w2 ⟨rfl, rfl⟩
            rw [Hd.out]
            go_wp2_with fail
            refine hRd.out.mono ?_
            rintro e w2 ⟨he, hb2⟩
            rw [Hn.out] at he
            obtain rfl : e = .panicked gaveUp := he
            go_wp2
            exact ⟨rfl, by rw [HD.out]; rfl, btr hb0 (btr hb hb2)⟩
        | some n =>
          rw [hn] at hdec
          have HD : Hid (rgs may (ws.map (·.data.toList)) = some (gs ++ [n])) := hdec
          have Hn : Hid (rgrp x.data.toList = some n) := hn
          have Hgl : Hid (gs.length = k) := hgl
          clear hdec hn hgl
          cases may
          · go_wp2_with fail
            refine hRd.out.mono ?_
            rintro e w2 ⟨he, hb2⟩
            rw [Hn.out] at he
            obtain rfl : e = .returned (.int .u64 (n : Int)) := he
            have hown2 := own_below hown hb2
            go_wp2_with (at_builtin; refine wpList_append_own _ rfl _ _ 88 rfl w'.heap.size 23 i0 (.int .u64 0) 1 8 Tryz.underlying88 hi hz0 hz1 hz2 rfl (by decide) _ _ _ rfl (hown2.alloc _) ⟨w2.heap.size, 0, none⟩ 1 1 [.int .u64 (n : Int)] rfl rfl ?c1 ?c2 ?c3 ?c4 ?c5 ?_)
            case c1 =>
              intro j u hj
              match j, hj with
              | 0, hj => simp at hj; subst hj; simp [Addr.add]
            case c2 => intro u hu; simp at hu; subst hu; rfl
            case c3 => have := Hgl.out; unfold maxLen; omega
            case c4 => have := Hgl.out; omega
            case c5 => have := hb2.size; simp; omega
            intro v' w3 hown' hgrow _
            have hb3 : Below w'.heap.size w' w3 := (bal (btr hb hb2) _).grown hgrow (by have := hb2.size; simp; omega) (fun k hk => (hown2.lt k hk).1)
            have HR : Hid (w3.ownsRow w.heap.size 23 1 v' (gs ++ [n]).length (u64s (gs ++ [n]))) := by
              have e1 : (gs ++ [n]).length = gs.length + 1 := by simp
              have e2 : u64s (gs ++ [n]) = u64s gs ++ [.int .u64 (n : Int)] := by simp [u64s]
              rw [e1, e2]; exact own_base hown' (by omega)
            clear hown' hgrow hown hown2
            go_wp2
            go_ret
            exact ⟨by rw [HD.out]; exact ⟨_, rfl, HR⟩, btr hb0 hb3⟩
          · have Hd : Hid (decide ((46 : UInt8) ∈ x.data.toList) = false) := by simp [Hid]; simpa using hdot
            clear hdot
            go_wp2_with fail
            refine hCo.out.mono ?_
            rintro e w2 ⟨rfl, rfl⟩
            rw [Hd.out]
            go_wp2_with fail
            refine hRd.out.mono ?_
            rintro e w2 ⟨he, hb2⟩
            rw [Hn.out] at he
            obtain rfl : e = .returned (.int .u64 (n : Int)) := he
            have hown2 := own_below hown hb2
            go_wp2_with (at_builtin; refine wpList_append_own _ rfl _ _ 88 rfl w'.heap.size 23 i0 (.int .u64 0) 1 8 Tryz.underlying88 hi hz0 hz1 hz2 rfl (by decide) _ _ _ rfl (hown2.alloc _) ⟨w2.heap.size, 0, none⟩ 1 1 [.int .u64 (n : Int)] rfl rfl ?c1 ?c2 ?c3 ?c4 ?c5 ?_)
            case c1 =>
              intro j u hj
              match j, hj with
              | 0, hj => simp at hj; subst hj; simp [Addr.add]
            case c2 => intro u hu; simp at hu; subst hu; rfl
            case c3 => have := Hgl.out; unfold maxLen; omega
            case c4 => have := Hgl.out; omega
            case c5 => have := hb2.size; simp; omega
            intro v' w3 hown' hgrow _
            have hb3 : Below w'.heap.size w' w3 := (bal (btr hb hb2) _).grown hgrow (by have := hb2.size; simp; omega) (fun k hk => (hown2.lt k hk).1)
            have HR : Hid (w3.ownsRow w.heap.size 23 1 v' (gs ++ [n]).length (u64s (gs ++ [n]))) := by
              have e1 : (gs ++ [n]).length = gs.length + 1 := by simp
              have e2 : u64s (gs ++ [n]) = u64s gs ++ [.int .u64 (n : Int)] := by simp [u64s]
              rw [e1, e2]; exact own_base hown' (by omega)
            clear hown' hgrow hown hown2
            go_wp2
            go_ret
            exact ⟨by rw [HD.out]; exact ⟨_, rfl, HR⟩, btr hb0 hb3⟩
end Go.Proofs.YtghbonlignmdoaaGreatDoor
