/- The document's answer: ParseOf: the walk. -/
import Derived.Test.YtollaiabcnmebaaDoorRfQ
set_option linter.unusedVariables false
set_option linter.unusedSimpArgs false
namespace Go.Proofs.YtollaiabcnmebaaDoor
open Go.RowKit

def strLen : Value → Nat
  | .string b => b.size
  | _ => 0

set_option maxHeartbeats 16000000 in
set_option maxRecDepth 100000 in
theorem parseOf_any (s : ByteArray) (w : World) (hs : s.size ≤ 1048576) :
    Calls Tryd.prog 11 #[.string s] w fun e w' => e = .returned (.tuple #[prV (rparse s.data.toList), .bool (rparse s.data.toList).isSome]) ∧ Below w.heap.size w w' := by
  have hl := size_list s
  obtain ⟨N, hN⟩ : ∃ N, N = s.size := ⟨_, rfl⟩
  have HN : Hid (N = s.size) := hN
  have hN20 : N ≤ 1048576 := by omega
  have HB0 : Hid (Below w.heap.size w (w.alloc (.cells #[.bool false, .int .u64 0, .int .u64 0] 24))) := bal (Below.refl _ _) _
  have P1 : Hid (Has3 (w.alloc (.cells #[.bool false, .int .u64 0, .int .u64 0] 24)) w.heap.size (.bool false) (.int .u64 0) (.int .u64 0)) := Has3.new w _ _ _ _
  have F1 : Hid (∀ o, (w.alloc (.cells #[.bool false, .int .u64 0, .int .u64 0] 24)).frozen? ⟨w.heap.size, o, none⟩ = false) := fun o => World.frozen?_alloc_at _ _ _ _ rfl
  obtain ⟨R, hR⟩ : ∃ R, R = rparse s.data.toList := ⟨_, rfl⟩
  have HR : Hid (R = rparse s.data.toList) := hR
  rw [← hR]
  clear hN hR
  go_enter Tryd.func11, Tryd.ntmps11
  go_wp2_with fail
  generalize w.alloc (.cells #[.bool false, .int .u64 0, .int .u64 0] 24) = W0 at *
  go_loop [4, 5, 6] (fun vc va vi => ∃ (k : Nat) (c : Bool) (a j : Int), vi = .int .i64 j ∧ vc = .bool c ∧ va = .int .i64 a ∧ k ≤ N ∧ Hid (j = (k : Int) - 1 ∧ c = decide ((58 : UInt8) ∈ s.data.toList.drop k) ∧ a = atOf s.data.toList k))
    (fun _ _ vi => (intOf vi + 1).toNat)
  case atStart => exact ⟨N, false, -1, (s.size : Int) - 1, rfl, rfl, rfl, Nat.le_refl _, by have := HN.out; omega, by rw [List.drop_eq_nil_of_le (by rw [hl, ← HN.out]; exact Nat.le_refl _)]; rfl, (at_end _ N (by rw [hl, ← HN.out]; exact Nat.le_refl _)).symm⟩
  case round =>
    obtain ⟨k, c, a, j, rfl, rfl, rfl, hk, HH⟩ := hrel
    obtain ⟨e1, e2, e3⟩ := HH.out
    have hN := HN.out
    by_cases hk0 : 0 < k
    · obtain ⟨m, hm⟩ : ∃ m, k = m + 1 := ⟨k - 1, by omega⟩
      subst hm
      have hjm : j = (m : Int) := by rw [e1]; omega
      subst hjm
      have hms : m < s.size := by omega
      have hml : m < s.data.toList.length := by omega
      have hmem : ((58 : UInt8) ∈ s.data.toList.drop m) = (s[m] = 58 ∨ (58 : UInt8) ∈ s.data.toList.drop (m + 1)) := by
        rw [List.drop_eq_getElem_cons hml, data_get s m hms, List.mem_cons]
        exact propext ⟨fun h => h.imp Eq.symm id, fun h => h.imp Eq.symm id⟩
      have hmi : (m : Int) < (s.size : Int) := by omega
      have hm0 : (0 : Int) ≤ (m : Int) := by omega
      have hsk : s[m]? = some s[m] := by simp [hms]
      have hat0 := at_miss0 s.data.toList m hml
      have hat1 := at_miss1 s.data.toList m hml
      rw [data_get s m hms] at hat1
      have Hc : Hid (c = decide ((58 : UInt8) ∈ s.data.toList.drop (m + 1))) := e2
      have Ha : Hid (a = atOf s.data.toList (m + 1)) := e3
      clear e1 e2 e3 HH
      by_cases hx : s[m] = 58
      · have hxi : (s[m].toNat : Int) = 58 := by rw [hx]; rfl
        by_cases h1 : m + 1 < s.size
        · have hm1 : (m : Int) + 1 < (s.size : Int) := by omega
          have hsk1 : s[m + 1]? = some s[m + 1] := by simp [h1]
          by_cases hy : s[m + 1] = 58
          · have hyi : (s[m + 1].toNat : Int) = 58 := by rw [hy]; rfl
            have HD : Hid (true = decide ((58 : UInt8) ∈ s.data.toList.drop m) ∧ (m : Int) = atOf s.data.toList m) := ⟨by rw [decide_eq_true]; rw [hmem]; exact .inl hx, (at_hit s.data.toList m (by omega) (by rw [data_get s m hms]; exact hx) (by rw [data_get s (m + 1) h1]; exact hy)).symm⟩
            clear hat0 hat1 hmem Ha Hc
            cases c with
            | false =>
              go_wp2_with fail
              exact ⟨⟨m, _, _, _, rfl, rfl, rfl, by omega, rfl, HD.out.1, HD.out.2⟩, by simp [intOf]⟩
            | true =>
              go_wp2_with fail
              exact ⟨⟨m, _, _, _, rfl, rfl, rfl, by omega, rfl, HD.out.1, HD.out.2⟩, by simp [intOf]⟩
          · have hyi : ¬ (s[m + 1].toNat : Int) = 58 := fun e => hy (UInt8.toNat_inj.1 (by have : (58 : UInt8).toNat = 58 := rfl; omega))
            have HD : Hid (true = decide ((58 : UInt8) ∈ s.data.toList.drop m) ∧ a = atOf s.data.toList m) := ⟨by rw [decide_eq_true]; rw [hmem]; exact .inl hx, by rw [at_miss2 s.data.toList m (by omega) (by rw [data_get s (m + 1) h1]; exact hy)]; exact Ha.out⟩
            clear hat0 hat1 hmem Ha Hc
            cases c with
            | false =>
              go_wp2_with fail
              exact ⟨⟨m, _, _, _, rfl, rfl, rfl, by omega, rfl, HD.out.1, HD.out.2⟩, by simp [intOf]⟩
            | true =>
              go_wp2_with fail
              exact ⟨⟨m, _, _, _, rfl, rfl, rfl, by omega, rfl, HD.out.1, HD.out.2⟩, by simp [intOf]⟩
        · have hm1 : ¬ (m : Int) + 1 < (s.size : Int) := by omega
          have HD : Hid (true = decide ((58 : UInt8) ∈ s.data.toList.drop m) ∧ a = atOf s.data.toList m) := ⟨by rw [decide_eq_true]; rw [hmem]; exact .inl hx, by rw [hat0 (by omega)]; exact Ha.out⟩
          clear hat0 hat1 hmem Ha Hc
          cases c with
          | false =>
            go_wp2_with fail
            exact ⟨⟨m, _, _, _, rfl, rfl, rfl, by omega, rfl, HD.out.1, HD.out.2⟩, by simp [intOf]⟩
          | true =>
            go_wp2_with fail
            exact ⟨⟨m, _, _, _, rfl, rfl, rfl, by omega, rfl, HD.out.1, HD.out.2⟩, by simp [intOf]⟩
      · have hxi : ¬ (s[m].toNat : Int) = 58 := fun e => hx (UInt8.toNat_inj.1 (by have : (58 : UInt8).toNat = 58 := rfl; omega))
        have hxb : ((s[m].toNat : Int) == 58) = false := by rw [beq_eq_false_iff_ne]; exact hxi
        by_cases h1 : m + 1 < s.size
        · have hm1 : (m : Int) + 1 < (s.size : Int) := by omega
          have HD : Hid (c = decide ((58 : UInt8) ∈ s.data.toList.drop m) ∧ a = atOf s.data.toList m) := ⟨by rw [Hc.out]; congr 1; rw [hmem, eq_iff_iff]; simp [hx], by rw [hat1 hx]; exact Ha.out⟩
          clear hat0 hat1 hmem Ha Hc
          cases c with
          | false =>
            go_wp2_with fail
            exact ⟨⟨m, _, _, _, rfl, rfl, rfl, by omega, rfl, HD.out.1, HD.out.2⟩, by simp [intOf]⟩
          | true =>
            go_wp2_with fail
            exact ⟨⟨m, _, _, _, rfl, rfl, rfl, by omega, rfl, HD.out.1, HD.out.2⟩, by simp [intOf]⟩
        · have hm1 : ¬ (m : Int) + 1 < (s.size : Int) := by omega
          have HD : Hid (c = decide ((58 : UInt8) ∈ s.data.toList.drop m) ∧ a = atOf s.data.toList m) := ⟨by rw [Hc.out]; congr 1; rw [hmem, eq_iff_iff]; simp [hx], by rw [hat1 hx]; exact Ha.out⟩
          clear hat0 hat1 hmem Ha Hc
          cases c with
          | false =>
            go_wp2_with fail
            exact ⟨⟨m, _, _, _, rfl, rfl, rfl, by omega, rfl, HD.out.1, HD.out.2⟩, by simp [intOf]⟩
          | true =>
            go_wp2_with fail
            exact ⟨⟨m, _, _, _, rfl, rfl, rfl, by omega, rfl, HD.out.1, HD.out.2⟩, by simp [intOf]⟩
    · have hk00 : k = 0 := by omega
      subst hk00
      have hjm : j = -1 := by rw [e1]; omega
      subst hjm
      rw [List.drop_zero] at e2
      clear HH e1
      by_cases hc : (58 : UInt8) ∈ s.data.toList
      · have hRl := rparse_long s.data.toList
        rw [if_pos hc] at hRl
        have hct : c = true := by rw [e2]; exact decide_eq_true hc
        subst hct
        clear e2
        rcases at_le s.data.toList s.data.toList.length 0 (by omega) with ha | ⟨ha0, ha2⟩
        · have ha1 : a = -1 := e3.trans ha
          subst ha1
          have hcut := cutc_none _ ha
          have hsix : rsix s.data.toList = (rgroups true s.data.toList).bind joinG := by rw [rsix, if_pos hcut]
          rw [hsix] at hRl
          have HG : Hid (∀ w : World, Calls Tryd.prog 26 #[.string s, .bool true] w fun e w' => e = .returned (grT (rgroups true s.data.toList)) ∧ Below w.heap.size w w') := fun w => groupsOf_any s true w hs
          clear e3 ha hcut hsix hc
          cases hr : rgroups true s.data.toList with
          | none =>
            rw [hr] at hRl HG
            have HE : Hid (R = none) := by rw [Hid, HR.out, hRl]; rfl
            clear hRl hr HR
            have S0 : Hid (Has3 W0 w.heap.size (.bool false) (.int .u64 0) (.int .u64 0)) ∧ Hid (∀ o, W0.frozen? ⟨w.heap.size, o, none⟩ = false) ∧ Hid (Below w.heap.size w W0) := ⟨P1, F1, HB0⟩
            go_wp2_with fail
            refine (HG.out _).mono ?_
            rintro e w1 ⟨rfl, hb⟩
            have PPw1 : Hid (Has3 w1 w.heap.size (.bool false) (.int .u64 0) (.int .u64 0)) := (S0.1.out).below hb
            have FFw1 : Hid (∀ o, w1.frozen? ⟨w.heap.size, o, none⟩ = false) := fun o => by rw [(bcell hb).2 _ o S0.1.out.2.2.2]; exact S0.2.1.out o
            have BBw1 : Hid (Below w.heap.size w w1) := btr S0.2.2.out hb
            clear hb
            simp only [grT]
            obtain ⟨p0, p1, p2, p3⟩ := PPw1.out
            have f0 := FFw1.out 0
            have f1 := FFw1.out 1
            have f2 := FFw1.out 2
            have HBr : Hid (Below w.heap.size w w1) := BBw1.out
            clear PPw1 FFw1 BBw1
            go_wp2_with fail
            refine bodyPost_ret (v := .tuple #[.agg #[.bool false, .int .u64 0, .int .u64 0], .bool false]) ?_ rfl ⟨by rw [HE.out]; rfl, ?_⟩
            · obtain ⟨a0, a1, a2, _⟩ := Has3.store ⟨p0, p1, p2, p3⟩ (.bool false) (.int .u64 0) (.int .u64 0)
              generalize ((w1.setCell _ _).setCell _ _).setCell _ _ = WW at a0 a1 a2 ⊢
              simp [results, Tryd.results11, go_sem, a0, a1, a2]
            · exact bse (bse (bse HBr.out (Nat.le_refl _) _) (Nat.le_refl _) _) (Nat.le_refl _) _
          | some gs =>
            rw [hr] at hRl HG
            obtain ⟨hglt, hgln⟩ := rgroups_lt hr
            obtain ⟨X, hX⟩ : ∃ X : ByteArray, X = ⟨(gbits gs).toArray⟩ := ⟨_, rfl⟩
            have hXs : X.size = 16 * gs.length := by rw [hX]; show (gbits gs).toArray.size = _; rw [List.size_toArray, gbits_length]
            by_cases h8 : gs.length = 8
            · have HE : Hid (R = some (true, gnum (gs.take 4) 0, gnum (gs.drop 4) 0)) := by rw [Hid, HR.out, hRl]; simp [joinG, h8]
              have HA : Hid (∀ w : World, Calls Tryd.prog 24 #[.string X] w fun e w' => e = .returned (.agg #[.bool true, .int .u64 ((gnum (gs.take 4) 0 : Nat) : Int), .int .u64 ((gnum (gs.drop 4) 0 : Nat) : Int)]) ∧ Below w.heap.size w w') := by
                intro w; rw [hX]; exact addrOf_six gs w h8 hglt
              have h128 : (X.size : Int) = 128 := by omega
              clear hRl hr HR hglt hgln hXs h8
              have S0 : Hid (Has3 W0 w.heap.size (.bool false) (.int .u64 0) (.int .u64 0)) ∧ Hid (∀ o, W0.frozen? ⟨w.heap.size, o, none⟩ = false) ∧ Hid (Below w.heap.size w W0) := ⟨P1, F1, HB0⟩
              go_wp2_with fail
              refine (HG.out _).mono ?_
              rintro e w1 ⟨rfl, hb⟩
              have PPw1 : Hid (Has3 w1 w.heap.size (.bool false) (.int .u64 0) (.int .u64 0)) := (S0.1.out).below hb
              have FFw1 : Hid (∀ o, w1.frozen? ⟨w.heap.size, o, none⟩ = false) := fun o => by rw [(bcell hb).2 _ o S0.1.out.2.2.2]; exact S0.2.1.out o
              have BBw1 : Hid (Below w.heap.size w w1) := btr S0.2.2.out hb
              clear hb
              simp only [grT]
              rw [← hX]
              clear hX
              have Sw1 : Hid (Has3 w1 w.heap.size (.bool false) (.int .u64 0) (.int .u64 0)) ∧ Hid (∀ o, w1.frozen? ⟨w.heap.size, o, none⟩ = false) ∧ Hid (Below w.heap.size w w1) := ⟨PPw1, FFw1, BBw1⟩
              go_wp2_with fail
              refine (HA.out _).mono ?_
              rintro e w2 ⟨rfl, hb⟩
              have PPw2 : Hid (Has3 w2 w.heap.size (.bool false) (.int .u64 0) (.int .u64 0)) := (Sw1.1.out).below hb
              have FFw2 : Hid (∀ o, w2.frozen? ⟨w.heap.size, o, none⟩ = false) := fun o => by rw [(bcell hb).2 _ o Sw1.1.out.2.2.2]; exact Sw1.2.1.out o
              have BBw2 : Hid (Below w.heap.size w w2) := btr Sw1.2.2.out hb
              clear hb
              obtain ⟨p0, p1, p2, p3⟩ := PPw2.out
              have f0 := FFw2.out 0
              have f1 := FFw2.out 1
              have f2 := FFw2.out 2
              have HBr : Hid (Below w.heap.size w w2) := BBw2.out
              clear PPw2 FFw2 BBw2
              go_wp2_with fail
              refine bodyPost_ret (v := .tuple #[.agg #[.bool true, .int .u64 ((gnum (gs.take 4) 0 : Nat) : Int), .int .u64 ((gnum (gs.drop 4) 0 : Nat) : Int)], .bool true]) ?_ rfl ⟨by rw [HE.out]; rfl, ?_⟩
              · obtain ⟨a0, a1, a2, _⟩ := Has3.store ⟨p0, p1, p2, p3⟩ (.bool true) (.int .u64 ((gnum (gs.take 4) 0 : Nat) : Int)) (.int .u64 ((gnum (gs.drop 4) 0 : Nat) : Int))
                generalize ((w2.setCell _ _).setCell _ _).setCell _ _ = WW at a0 a1 a2 ⊢
                simp [results, Tryd.results11, go_sem, a0, a1, a2]
              · exact bse (bse (bse HBr.out (Nat.le_refl _) _) (Nat.le_refl _) _) (Nat.le_refl _) _
            · have HE : Hid (R = none) := by rw [Hid, HR.out, hRl]; simp [joinG, h8]
              have h128 : ¬ (X.size : Int) = 128 := by omega
              have h128b : ((X.size : Int) == 128) = false := by rw [beq_eq_false_iff_ne]; exact h128
              clear hRl hr HR hglt hgln hXs h8
              have S0 : Hid (Has3 W0 w.heap.size (.bool false) (.int .u64 0) (.int .u64 0)) ∧ Hid (∀ o, W0.frozen? ⟨w.heap.size, o, none⟩ = false) ∧ Hid (Below w.heap.size w W0) := ⟨P1, F1, HB0⟩
              go_wp2_with fail
              refine (HG.out _).mono ?_
              rintro e w1 ⟨rfl, hb⟩
              have PPw1 : Hid (Has3 w1 w.heap.size (.bool false) (.int .u64 0) (.int .u64 0)) := (S0.1.out).below hb
              have FFw1 : Hid (∀ o, w1.frozen? ⟨w.heap.size, o, none⟩ = false) := fun o => by rw [(bcell hb).2 _ o S0.1.out.2.2.2]; exact S0.2.1.out o
              have BBw1 : Hid (Below w.heap.size w w1) := btr S0.2.2.out hb
              clear hb
              simp only [grT]
              rw [← hX]
              clear hX
              obtain ⟨p0, p1, p2, p3⟩ := PPw1.out
              have f0 := FFw1.out 0
              have f1 := FFw1.out 1
              have f2 := FFw1.out 2
              have HBr : Hid (Below w.heap.size w w1) := BBw1.out
              clear PPw1 FFw1 BBw1
              go_wp2_with fail
              refine bodyPost_ret (v := .tuple #[.agg #[.bool false, .int .u64 0, .int .u64 0], .bool false]) ?_ rfl ⟨by rw [HE.out]; rfl, ?_⟩
              · obtain ⟨a0, a1, a2, _⟩ := Has3.store ⟨p0, p1, p2, p3⟩ (.bool false) (.int .u64 0) (.int .u64 0)
                generalize ((w1.setCell _ _).setCell _ _).setCell _ _ = WW at a0 a1 a2 ⊢
                simp [results, Tryd.results11, go_sem, a0, a1, a2]
              · exact bse (bse (bse HBr.out (Nat.le_refl _) _) (Nat.le_refl _) _) (Nat.le_refl _) _
        · obtain ⟨p, hp⟩ : ∃ p : Nat, atOf s.data.toList 0 = (p : Int) := ⟨(atOf s.data.toList 0).toNat, by omega⟩
          have ha1 : a = (p : Int) := e3.trans hp
          subst ha1
          have hcut := cutc_some _ p hp
          have hsix : rsix s.data.toList = (rgroups false (s.data.toList.take p)).bind fun a => (rgroups true (s.data.toList.drop (p + 2))).bind fun b => if a.length + b.length ≤ 7 then joinG (a ++ List.replicate (8 - a.length - b.length) 0 ++ b) else none := by
            rw [rsix, hcut]; rfl
          rw [hsix] at hRl
          rw [hp, hl] at ha2
          have hp2 : p + 2 ≤ s.size := by omega
          have hpi : (p : Int) + 2 ≤ (s.size : Int) := by omega
          have hpz : (0 : Int) ≤ (p : Int) := by omega
          have hpn : ¬ (p : Int) < 0 := by omega
          have hs1 : ∀ W : World, (Instr.sliceAt 9 (.string s) none (some (.int .i64 (p : Int))) none).run Tryd.prog W = .ok (.string ⟨(s.data.toList.take p).toArray⟩) W := fun W => str_to s p W (by omega) (by omega)
          have hs2 : ∀ W : World, (Instr.sliceAt 9 (.string s) (some (.int .i64 ((p : Int) + 2))) none none).run Tryd.prog W = .ok (.string ⟨(s.data.toList.drop (p + 2)).toArray⟩) W := fun W => by
            have := str_from s (p + 2) W hp2 (by omega)
            rw [show (((p + 2 : Nat)) : Int) = (p : Int) + 2 by omega] at this; exact this
          have HGA : Hid (∀ w : World, Calls Tryd.prog 26 #[.string ⟨(s.data.toList.take p).toArray⟩, .bool false] w fun e w' => e = .returned (grT (rgroups false (s.data.toList.take p))) ∧ Below w.heap.size w w') := fun w => groupsOf_any _ false w (by show (s.data.toList.take p).toArray.size ≤ _; rw [List.size_toArray, List.length_take]; omega)
          have HGB : Hid (∀ w : World, Calls Tryd.prog 26 #[.string ⟨(s.data.toList.drop (p + 2)).toArray⟩, .bool true] w fun e w' => e = .returned (grT (rgroups true (s.data.toList.drop (p + 2)))) ∧ Below w.heap.size w w') := fun w => groupsOf_any _ true w (by show (s.data.toList.drop (p + 2)).toArray.size ≤ _; rw [List.size_toArray, List.length_drop]; omega)
          clear e3 hp hcut hsix hc ha0 ha2
          cases hra : rgroups false (s.data.toList.take p) with
          | none =>
            rw [hra] at hRl HGA
            have HE : Hid (R = none) := by rw [Hid, HR.out, hRl]; rfl
            clear hRl hra HR
            cases hrb : rgroups true (s.data.toList.drop (p + 2)) with
            | none =>
              rw [hrb] at HGB
              clear hrb
              have S0 : Hid (Has3 W0 w.heap.size (.bool false) (.int .u64 0) (.int .u64 0)) ∧ Hid (∀ o, W0.frozen? ⟨w.heap.size, o, none⟩ = false) ∧ Hid (Below w.heap.size w W0) := ⟨P1, F1, HB0⟩
              go_wp2_with fail
              refine (HGA.out _).mono ?_
              rintro e w1 ⟨rfl, hb⟩
              have PPw1 : Hid (Has3 w1 w.heap.size (.bool false) (.int .u64 0) (.int .u64 0)) := (S0.1.out).below hb
              have FFw1 : Hid (∀ o, w1.frozen? ⟨w.heap.size, o, none⟩ = false) := fun o => by rw [(bcell hb).2 _ o S0.1.out.2.2.2]; exact S0.2.1.out o
              have BBw1 : Hid (Below w.heap.size w w1) := btr S0.2.2.out hb
              clear hb
              simp only [grT]
              have Sw1 : Hid (Has3 w1 w.heap.size (.bool false) (.int .u64 0) (.int .u64 0)) ∧ Hid (∀ o, w1.frozen? ⟨w.heap.size, o, none⟩ = false) ∧ Hid (Below w.heap.size w w1) := ⟨PPw1, FFw1, BBw1⟩
              go_wp2_with fail
              refine (HGB.out _).mono ?_
              rintro e w2 ⟨rfl, hb⟩
              have PPw2 : Hid (Has3 w2 w.heap.size (.bool false) (.int .u64 0) (.int .u64 0)) := (Sw1.1.out).below hb
              have FFw2 : Hid (∀ o, w2.frozen? ⟨w.heap.size, o, none⟩ = false) := fun o => by rw [(bcell hb).2 _ o Sw1.1.out.2.2.2]; exact Sw1.2.1.out o
              have BBw2 : Hid (Below w.heap.size w w2) := btr Sw1.2.2.out hb
              clear hb
              simp only [grT]
              obtain ⟨p0, p1, p2, p3⟩ := PPw2.out
              have f0 := FFw2.out 0
              have f1 := FFw2.out 1
              have f2 := FFw2.out 2
              have HBr : Hid (Below w.heap.size w w2) := BBw2.out
              clear PPw2 FFw2 BBw2
              go_wp2_with fail
              refine bodyPost_ret (v := .tuple #[.agg #[.bool false, .int .u64 0, .int .u64 0], .bool false]) ?_ rfl ⟨by rw [HE.out]; rfl, ?_⟩
              · obtain ⟨a0, a1, a2, _⟩ := Has3.store ⟨p0, p1, p2, p3⟩ (.bool false) (.int .u64 0) (.int .u64 0)
                generalize ((w2.setCell _ _).setCell _ _).setCell _ _ = WW at a0 a1 a2 ⊢
                simp [results, Tryd.results11, go_sem, a0, a1, a2]
              · exact bse (bse (bse HBr.out (Nat.le_refl _) _) (Nat.le_refl _) _) (Nat.le_refl _) _
            | some gb =>
              rw [hrb] at HGB
              clear hrb
              have S0 : Hid (Has3 W0 w.heap.size (.bool false) (.int .u64 0) (.int .u64 0)) ∧ Hid (∀ o, W0.frozen? ⟨w.heap.size, o, none⟩ = false) ∧ Hid (Below w.heap.size w W0) := ⟨P1, F1, HB0⟩
              go_wp2_with fail
              refine (HGA.out _).mono ?_
              rintro e w1 ⟨rfl, hb⟩
              have PPw1 : Hid (Has3 w1 w.heap.size (.bool false) (.int .u64 0) (.int .u64 0)) := (S0.1.out).below hb
              have FFw1 : Hid (∀ o, w1.frozen? ⟨w.heap.size, o, none⟩ = false) := fun o => by rw [(bcell hb).2 _ o S0.1.out.2.2.2]; exact S0.2.1.out o
              have BBw1 : Hid (Below w.heap.size w w1) := btr S0.2.2.out hb
              clear hb
              simp only [grT]
              have Sw1 : Hid (Has3 w1 w.heap.size (.bool false) (.int .u64 0) (.int .u64 0)) ∧ Hid (∀ o, w1.frozen? ⟨w.heap.size, o, none⟩ = false) ∧ Hid (Below w.heap.size w w1) := ⟨PPw1, FFw1, BBw1⟩
              go_wp2_with fail
              refine (HGB.out _).mono ?_
              rintro e w2 ⟨rfl, hb⟩
              have PPw2 : Hid (Has3 w2 w.heap.size (.bool false) (.int .u64 0) (.int .u64 0)) := (Sw1.1.out).below hb
              have FFw2 : Hid (∀ o, w2.frozen? ⟨w.heap.size, o, none⟩ = false) := fun o => by rw [(bcell hb).2 _ o Sw1.1.out.2.2.2]; exact Sw1.2.1.out o
              have BBw2 : Hid (Below w.heap.size w w2) := btr Sw1.2.2.out hb
              clear hb
              simp only [grT]
              obtain ⟨p0, p1, p2, p3⟩ := PPw2.out
              have f0 := FFw2.out 0
              have f1 := FFw2.out 1
              have f2 := FFw2.out 2
              have HBr : Hid (Below w.heap.size w w2) := BBw2.out
              clear PPw2 FFw2 BBw2
              go_wp2_with fail
              refine bodyPost_ret (v := .tuple #[.agg #[.bool false, .int .u64 0, .int .u64 0], .bool false]) ?_ rfl ⟨by rw [HE.out]; rfl, ?_⟩
              · obtain ⟨a0, a1, a2, _⟩ := Has3.store ⟨p0, p1, p2, p3⟩ (.bool false) (.int .u64 0) (.int .u64 0)
                generalize ((w2.setCell _ _).setCell _ _).setCell _ _ = WW at a0 a1 a2 ⊢
                simp [results, Tryd.results11, go_sem, a0, a1, a2]
              · exact bse (bse (bse HBr.out (Nat.le_refl _) _) (Nat.le_refl _) _) (Nat.le_refl _) _
          | some ga =>
            rw [hra] at hRl HGA
            cases hrb : rgroups true (s.data.toList.drop (p + 2)) with
            | none =>
              rw [hrb] at hRl HGB
              have HE : Hid (R = none) := by rw [Hid, HR.out, hRl]; rfl
              clear hRl hrb hra HR
              have S0 : Hid (Has3 W0 w.heap.size (.bool false) (.int .u64 0) (.int .u64 0)) ∧ Hid (∀ o, W0.frozen? ⟨w.heap.size, o, none⟩ = false) ∧ Hid (Below w.heap.size w W0) := ⟨P1, F1, HB0⟩
              go_wp2_with fail
              refine (HGA.out _).mono ?_
              rintro e w1 ⟨rfl, hb⟩
              have PPw1 : Hid (Has3 w1 w.heap.size (.bool false) (.int .u64 0) (.int .u64 0)) := (S0.1.out).below hb
              have FFw1 : Hid (∀ o, w1.frozen? ⟨w.heap.size, o, none⟩ = false) := fun o => by rw [(bcell hb).2 _ o S0.1.out.2.2.2]; exact S0.2.1.out o
              have BBw1 : Hid (Below w.heap.size w w1) := btr S0.2.2.out hb
              clear hb
              simp only [grT]
              have Sw1 : Hid (Has3 w1 w.heap.size (.bool false) (.int .u64 0) (.int .u64 0)) ∧ Hid (∀ o, w1.frozen? ⟨w.heap.size, o, none⟩ = false) ∧ Hid (Below w.heap.size w w1) := ⟨PPw1, FFw1, BBw1⟩
              go_wp2_with fail
              refine (HGB.out _).mono ?_
              rintro e w2 ⟨rfl, hb⟩
              have PPw2 : Hid (Has3 w2 w.heap.size (.bool false) (.int .u64 0) (.int .u64 0)) := (Sw1.1.out).below hb
              have FFw2 : Hid (∀ o, w2.frozen? ⟨w.heap.size, o, none⟩ = false) := fun o => by rw [(bcell hb).2 _ o Sw1.1.out.2.2.2]; exact Sw1.2.1.out o
              have BBw2 : Hid (Below w.heap.size w w2) := btr Sw1.2.2.out hb
              clear hb
              simp only [grT]
              obtain ⟨p0, p1, p2, p3⟩ := PPw2.out
              have f0 := FFw2.out 0
              have f1 := FFw2.out 1
              have f2 := FFw2.out 2
              have HBr : Hid (Below w.heap.size w w2) := BBw2.out
              clear PPw2 FFw2 BBw2
              go_wp2_with fail
              refine bodyPost_ret (v := .tuple #[.agg #[.bool false, .int .u64 0, .int .u64 0], .bool false]) ?_ rfl ⟨by rw [HE.out]; rfl, ?_⟩
              · obtain ⟨a0, a1, a2, _⟩ := Has3.store ⟨p0, p1, p2, p3⟩ (.bool false) (.int .u64 0) (.int .u64 0)
                generalize ((w2.setCell _ _).setCell _ _).setCell _ _ = WW at a0 a1 a2 ⊢
                simp [results, Tryd.results11, go_sem, a0, a1, a2]
              · exact bse (bse (bse HBr.out (Nat.le_refl _) _) (Nat.le_refl _) _) (Nat.le_refl _) _
            | some gb =>
              rw [hrb] at hRl HGB
              obtain ⟨hla, hna⟩ := rgroups_lt hra
              obtain ⟨hlb, hnb⟩ := rgroups_lt hrb
              rw [List.length_take] at hna
              rw [List.length_drop] at hnb
              obtain ⟨XA, hXA⟩ : ∃ X : ByteArray, X = ⟨(gbits ga).toArray⟩ := ⟨_, rfl⟩
              have hXAs : XA.size = 16 * ga.length := by rw [hXA]; show (gbits ga).toArray.size = _; rw [List.size_toArray, gbits_length]
              obtain ⟨XB, hXB⟩ : ∃ X : ByteArray, X = ⟨(gbits gb).toArray⟩ := ⟨_, rfl⟩
              have hXBs : XB.size = 16 * gb.length := by rw [hXB]; show (gbits gb).toArray.size = _; rw [List.size_toArray, gbits_length]
              have hXa0 : (XA.size : Int) ≤ 100000000 := by omega
              have hXb0 : (XB.size : Int) ≤ 100000000 := by omega
              by_cases h7 : ga.length + gb.length ≤ 7
              · have h112 : ¬ 112 < (XA.size : Int) + (XB.size : Int) := by omega
                have h112b : decide (112 < (XA.size : Int) + (XB.size : Int)) = false := decide_eq_false h112
                obtain ⟨gs, hgs⟩ : ∃ gs, gs = ga ++ List.replicate (8 - ga.length - gb.length) 0 ++ gb := ⟨_, rfl⟩
                have h8 : gs.length = 8 := by rw [hgs]; simp; omega
                have hglt : ∀ x ∈ gs, x < 65536 := by
                  intro x hx
                  rw [hgs] at hx
                  rcases List.mem_append.1 hx with hx | hx
                  · rcases List.mem_append.1 hx with hx | hx
                    · exact hla x hx
                    · have := (List.mem_replicate.1 hx).2; omega
                  · exact hlb x hx
                have HE : Hid (R = some (true, gnum (gs.take 4) 0, gnum (gs.drop 4) 0)) := by
                  rw [Hid, HR.out, hRl]
                  show ((if ga.length + gb.length ≤ 7 then joinG (ga ++ List.replicate (8 - ga.length - gb.length) 0 ++ gb) else none).map _) = _
                  rw [if_pos h7, ← hgs, joinG, if_pos h8]; rfl
                obtain ⟨X, hX⟩ : ∃ X : ByteArray, X = ⟨(gbits gs).toArray⟩ := ⟨_, rfl⟩
                have hXs : (X.size : Int) = 128 := by
                  rw [hX]; show (((gbits gs).toArray.size : Nat) : Int) = 128; rw [List.size_toArray, gbits_length, h8]; rfl
                have HA : Hid (∀ w : World, Calls Tryd.prog 24 #[.string X] w fun e w' => e = .returned (.agg #[.bool true, .int .u64 ((gnum (gs.take 4) 0 : Nat) : Int), .int .u64 ((gnum (gs.drop 4) 0 : Nat) : Int)]) ∧ Below w.heap.size w w') := by
                  intro w; rw [hX]; exact addrOf_six gs w h8 hglt
                have HXX : Hid (∀ W : World, (Op.stringOp .add ⟨(gbits ga ++ List.replicate (128 - 16 * ga.length - 16 * gb.length) 48).toArray⟩ XB).run Tryd.prog W = .ok (.string X) W) := by
                  intro W
                  rw [hX, hXB, hgs, gbits_append, gbits_append, gbits_zero, show 16 * (8 - ga.length - gb.length) = 128 - 16 * ga.length - 16 * gb.length by omega]
                  exact add_lists _ _ W (by simp [gbits_length]; omega)
                clear hRl hra hrb HR hla hlb hna hnb hgs hX hglt h8
                have S0 : Hid (Has3 W0 w.heap.size (.bool false) (.int .u64 0) (.int .u64 0)) ∧ Hid (∀ o, W0.frozen? ⟨w.heap.size, o, none⟩ = false) ∧ Hid (Below w.heap.size w W0) := ⟨P1, F1, HB0⟩
                go_wp2_with fail
                refine (HGA.out _).mono ?_
                rintro e w1 ⟨rfl, hb⟩
                have PPw1 : Hid (Has3 w1 w.heap.size (.bool false) (.int .u64 0) (.int .u64 0)) := (S0.1.out).below hb
                have FFw1 : Hid (∀ o, w1.frozen? ⟨w.heap.size, o, none⟩ = false) := fun o => by rw [(bcell hb).2 _ o S0.1.out.2.2.2]; exact S0.2.1.out o
                have BBw1 : Hid (Below w.heap.size w w1) := btr S0.2.2.out hb
                clear hb
                simp only [grT]
                have Sw1 : Hid (Has3 w1 w.heap.size (.bool false) (.int .u64 0) (.int .u64 0)) ∧ Hid (∀ o, w1.frozen? ⟨w.heap.size, o, none⟩ = false) ∧ Hid (Below w.heap.size w w1) := ⟨PPw1, FFw1, BBw1⟩
                go_wp2_with fail
                refine (HGB.out _).mono ?_
                rintro e w2 ⟨rfl, hb⟩
                have PPw2 : Hid (Has3 w2 w.heap.size (.bool false) (.int .u64 0) (.int .u64 0)) := (Sw1.1.out).below hb
                have FFw2 : Hid (∀ o, w2.frozen? ⟨w.heap.size, o, none⟩ = false) := fun o => by rw [(bcell hb).2 _ o Sw1.1.out.2.2.2]; exact Sw1.2.1.out o
                have BBw2 : Hid (Below w.heap.size w w2) := btr Sw1.2.2.out hb
                clear hb
                simp only [grT]
                rw [← hXA, ← hXB]
                have Sw2 : Hid (Has3 w2 w.heap.size (.bool false) (.int .u64 0) (.int .u64 0)) ∧ Hid (∀ o, w2.frozen? ⟨w.heap.size, o, none⟩ = false) ∧ Hid (Below w.heap.size w w2) := ⟨PPw2, FFw2, BBw2⟩
                have HXA : Hid (XA = ⟨(gbits ga).toArray⟩) := hXA
                clear hXA hXB
                have HSZ : Hid (XA.size = 16 * ga.length ∧ XB.size = 16 * gb.length) := ⟨hXAs, hXBs⟩
                clear hXAs hXBs
                go_wp2_with fail
                go_loop [12] (fun va => ∃ (j : Nat) (Y : ByteArray), va = .string Y ∧ (Y.size : Int) ≤ 128 ∧ Hid (Y = ⟨(gbits ga ++ List.replicate j 48).toArray⟩ ∧ Y.size = 16 * ga.length + j ∧ 16 * ga.length + 16 * gb.length + j ≤ 128))
                  (fun va => 128 - strLen va)
                case atStart => exact ⟨0, XA, rfl, by have := HSZ.out; omega, by rw [HXA.out]; simp, by rw [HSZ.out.1]; rfl, by omega⟩
                case round =>
                  obtain ⟨j, Y, rfl, hY8, hYY⟩ := hrel
                  obtain ⟨y1, y2, y3⟩ := hYY.out
                  obtain ⟨z1, z2⟩ := HSZ.out
                  by_cases hlt : Y.size + XB.size < 128
                  · have hlti : (Y.size : Int) + (XB.size : Int) < 128 := by omega
                    have hp1 : ∀ W : World, (Op.stringOp .add Y ⟨#[48]⟩).run Tryd.prog W = .ok (.string ⟨(gbits ga ++ List.replicate (j + 1) 48).toArray⟩) W := by
                      intro W
                      rw [y1, List.replicate_succ', ← List.append_assoc]
                      exact add_lists _ [48] W (by simp [gbits_length]; omega)
                    have HZ : Hid ((⟨(gbits ga ++ List.replicate (j + 1) 48).toArray⟩ : ByteArray).size = 16 * ga.length + (j + 1)) := by
                      show (gbits ga ++ List.replicate (j + 1) 48).toArray.size = _
                      rw [List.size_toArray, List.length_append, gbits_length, List.length_replicate]
                    have HY : Hid (Y.size = 16 * ga.length + j ∧ XB.size = 16 * gb.length) := ⟨y2, z2⟩
                    clear y1 y2 y3 z1 z2 hYY
                    go_wp2_with fail
                    obtain ⟨y2, z2⟩ := HY.out
                    have hZ := HZ.out
                    exact ⟨⟨j + 1, _, rfl, by omega, rfl, hZ, by omega⟩, by simp only [strLen]; omega⟩
                  · have hlti : ¬ (Y.size : Int) + (XB.size : Int) < 128 := by omega
                    have hp1 := HXX.out
                    rw [show 128 - 16 * ga.length - 16 * gb.length = j by omega, ← y1] at hp1
                    clear y1 y2 y3 z1 z2 hYY HXX
                    go_wp2_with fail
                    refine (HA.out _).mono ?_
                    rintro e w3 ⟨rfl, hb⟩
                    have PPw3 : Hid (Has3 w3 w.heap.size (.bool false) (.int .u64 0) (.int .u64 0)) := (Sw2.1.out).below hb
                    have FFw3 : Hid (∀ o, w3.frozen? ⟨w.heap.size, o, none⟩ = false) := fun o => by rw [(bcell hb).2 _ o Sw2.1.out.2.2.2]; exact Sw2.2.1.out o
                    have BBw3 : Hid (Below w.heap.size w w3) := btr Sw2.2.2.out hb
                    clear hb
                    obtain ⟨p0, p1, p2, p3⟩ := PPw3.out
                    have f0 := FFw3.out 0
                    have f1 := FFw3.out 1
                    have f2 := FFw3.out 2
                    have HBr : Hid (Below w.heap.size w w3) := BBw3.out
                    clear PPw3 FFw3 BBw3
                    go_wp2_with fail
                    refine bodyPost_ret (v := .tuple #[.agg #[.bool true, .int .u64 ((gnum (gs.take 4) 0 : Nat) : Int), .int .u64 ((gnum (gs.drop 4) 0 : Nat) : Int)], .bool true]) ?_ rfl ⟨by rw [HE.out]; rfl, ?_⟩
                    · obtain ⟨a0, a1, a2, _⟩ := Has3.store ⟨p0, p1, p2, p3⟩ (.bool true) (.int .u64 ((gnum (gs.take 4) 0 : Nat) : Int)) (.int .u64 ((gnum (gs.drop 4) 0 : Nat) : Int))
                      generalize ((w3.setCell _ _).setCell _ _).setCell _ _ = WW at a0 a1 a2 ⊢
                      simp [results, Tryd.results11, go_sem, a0, a1, a2]
                    · exact bse (bse (bse HBr.out (Nat.le_refl _) _) (Nat.le_refl _) _) (Nat.le_refl _) _
              · have h112 : 112 < (XA.size : Int) + (XB.size : Int) := by omega
                have h112b : decide (112 < (XA.size : Int) + (XB.size : Int)) = true := decide_eq_true h112
                have HE : Hid (R = none) := by rw [Hid, HR.out, hRl]; simp [h7]
                clear hRl hra hrb HR hla hlb hna hnb
                have S0 : Hid (Has3 W0 w.heap.size (.bool false) (.int .u64 0) (.int .u64 0)) ∧ Hid (∀ o, W0.frozen? ⟨w.heap.size, o, none⟩ = false) ∧ Hid (Below w.heap.size w W0) := ⟨P1, F1, HB0⟩
                go_wp2_with fail
                refine (HGA.out _).mono ?_
                rintro e w1 ⟨rfl, hb⟩
                have PPw1 : Hid (Has3 w1 w.heap.size (.bool false) (.int .u64 0) (.int .u64 0)) := (S0.1.out).below hb
                have FFw1 : Hid (∀ o, w1.frozen? ⟨w.heap.size, o, none⟩ = false) := fun o => by rw [(bcell hb).2 _ o S0.1.out.2.2.2]; exact S0.2.1.out o
                have BBw1 : Hid (Below w.heap.size w w1) := btr S0.2.2.out hb
                clear hb
                simp only [grT]
                have Sw1 : Hid (Has3 w1 w.heap.size (.bool false) (.int .u64 0) (.int .u64 0)) ∧ Hid (∀ o, w1.frozen? ⟨w.heap.size, o, none⟩ = false) ∧ Hid (Below w.heap.size w w1) := ⟨PPw1, FFw1, BBw1⟩
                go_wp2_with fail
                refine (HGB.out _).mono ?_
                rintro e w2 ⟨rfl, hb⟩
                have PPw2 : Hid (Has3 w2 w.heap.size (.bool false) (.int .u64 0) (.int .u64 0)) := (Sw1.1.out).below hb
                have FFw2 : Hid (∀ o, w2.frozen? ⟨w.heap.size, o, none⟩ = false) := fun o => by rw [(bcell hb).2 _ o Sw1.1.out.2.2.2]; exact Sw1.2.1.out o
                have BBw2 : Hid (Below w.heap.size w w2) := btr Sw1.2.2.out hb
                clear hb
                simp only [grT]
                rw [← hXA, ← hXB]
                clear hXA hXB
                obtain ⟨p0, p1, p2, p3⟩ := PPw2.out
                have f0 := FFw2.out 0
                have f1 := FFw2.out 1
                have f2 := FFw2.out 2
                have HBr : Hid (Below w.heap.size w w2) := BBw2.out
                clear PPw2 FFw2 BBw2
                go_wp2_with fail
                refine bodyPost_ret (v := .tuple #[.agg #[.bool false, .int .u64 0, .int .u64 0], .bool false]) ?_ rfl ⟨by rw [HE.out]; rfl, ?_⟩
                · obtain ⟨a0, a1, a2, _⟩ := Has3.store ⟨p0, p1, p2, p3⟩ (.bool false) (.int .u64 0) (.int .u64 0)
                  generalize ((w2.setCell _ _).setCell _ _).setCell _ _ = WW at a0 a1 a2 ⊢
                  simp [results, Tryd.results11, go_sem, a0, a1, a2]
                · exact bse (bse (bse HBr.out (Nat.le_refl _) _) (Nat.le_refl _) _) (Nat.le_refl _) _
      · have hRl := rparse_long s.data.toList
        rw [if_neg hc] at hRl
        have hct : c = false := by rw [e2]; exact decide_eq_false hc
        subst hct
        have HF : Hid (∀ w : World, Calls Tryd.prog 25 #[.string s] w fun e w' => e = .returned (bitT 32 (rfour s.data.toList)) ∧ Below w.heap.size w w') := fun w => fourOf_any s w hs
        clear e2 e3 hc
        cases hr : rfour s.data.toList with
        | none =>
          rw [hr] at hRl HF
          have HE : Hid (R = none) := by rw [Hid, HR.out, hRl]; rfl
          clear hRl hr HR
          have S0 : Hid (Has3 W0 w.heap.size (.bool false) (.int .u64 0) (.int .u64 0)) ∧ Hid (∀ o, W0.frozen? ⟨w.heap.size, o, none⟩ = false) ∧ Hid (Below w.heap.size w W0) := ⟨P1, F1, HB0⟩
          go_wp2_with fail
          refine (HF.out _).mono ?_
          rintro e w1 ⟨rfl, hb⟩
          have PPw1 : Hid (Has3 w1 w.heap.size (.bool false) (.int .u64 0) (.int .u64 0)) := (S0.1.out).below hb
          have FFw1 : Hid (∀ o, w1.frozen? ⟨w.heap.size, o, none⟩ = false) := fun o => by rw [(bcell hb).2 _ o S0.1.out.2.2.2]; exact S0.2.1.out o
          have BBw1 : Hid (Below w.heap.size w w1) := btr S0.2.2.out hb
          clear hb
          simp only [bitT]
          obtain ⟨p0, p1, p2, p3⟩ := PPw1.out
          have f0 := FFw1.out 0
          have f1 := FFw1.out 1
          have f2 := FFw1.out 2
          have HBr : Hid (Below w.heap.size w w1) := BBw1.out
          clear PPw1 FFw1 BBw1
          go_wp2_with fail
          refine bodyPost_ret (v := .tuple #[.agg #[.bool false, .int .u64 0, .int .u64 0], .bool false]) ?_ rfl ⟨by rw [HE.out]; rfl, ?_⟩
          · obtain ⟨a0, a1, a2, _⟩ := Has3.store ⟨p0, p1, p2, p3⟩ (.bool false) (.int .u64 0) (.int .u64 0)
            generalize ((w1.setCell _ _).setCell _ _).setCell _ _ = WW at a0 a1 a2 ⊢
            simp [results, Tryd.results11, go_sem, a0, a1, a2]
          · exact bse (bse (bse HBr.out (Nat.le_refl _) _) (Nat.le_refl _) _) (Nat.le_refl _) _
        | some n =>
          rw [hr] at hRl HF
          have hn := rfour_lt hr
          have HE : Hid (R = some (false, 0, n)) := by rw [Hid, HR.out, hRl]; rfl
          have HA : Hid (∀ w : World, Calls Tryd.prog 24 #[.string ⟨(bin 32 n).toArray⟩] w fun e w' => e = .returned (.agg #[.bool false, .int .u64 0, .int .u64 (n : Int)]) ∧ Below w.heap.size w w') := fun w => addrOf_four n w hn
          clear hRl hr HR
          have S0 : Hid (Has3 W0 w.heap.size (.bool false) (.int .u64 0) (.int .u64 0)) ∧ Hid (∀ o, W0.frozen? ⟨w.heap.size, o, none⟩ = false) ∧ Hid (Below w.heap.size w W0) := ⟨P1, F1, HB0⟩
          go_wp2_with fail
          refine (HF.out _).mono ?_
          rintro e w1 ⟨rfl, hb⟩
          have PPw1 : Hid (Has3 w1 w.heap.size (.bool false) (.int .u64 0) (.int .u64 0)) := (S0.1.out).below hb
          have FFw1 : Hid (∀ o, w1.frozen? ⟨w.heap.size, o, none⟩ = false) := fun o => by rw [(bcell hb).2 _ o S0.1.out.2.2.2]; exact S0.2.1.out o
          have BBw1 : Hid (Below w.heap.size w w1) := btr S0.2.2.out hb
          clear hb
          simp only [bitT]
          have Sw1 : Hid (Has3 w1 w.heap.size (.bool false) (.int .u64 0) (.int .u64 0)) ∧ Hid (∀ o, w1.frozen? ⟨w.heap.size, o, none⟩ = false) ∧ Hid (Below w.heap.size w w1) := ⟨PPw1, FFw1, BBw1⟩
          go_wp2_with fail
          refine (HA.out _).mono ?_
          rintro e w2 ⟨rfl, hb⟩
          have PPw2 : Hid (Has3 w2 w.heap.size (.bool false) (.int .u64 0) (.int .u64 0)) := (Sw1.1.out).below hb
          have FFw2 : Hid (∀ o, w2.frozen? ⟨w.heap.size, o, none⟩ = false) := fun o => by rw [(bcell hb).2 _ o Sw1.1.out.2.2.2]; exact Sw1.2.1.out o
          have BBw2 : Hid (Below w.heap.size w w2) := btr Sw1.2.2.out hb
          clear hb
          obtain ⟨p0, p1, p2, p3⟩ := PPw2.out
          have f0 := FFw2.out 0
          have f1 := FFw2.out 1
          have f2 := FFw2.out 2
          have HBr : Hid (Below w.heap.size w w2) := BBw2.out
          clear PPw2 FFw2 BBw2
          go_wp2_with fail
          refine bodyPost_ret (v := .tuple #[.agg #[.bool false, .int .u64 0, .int .u64 (n : Int)], .bool true]) ?_ rfl ⟨by rw [HE.out]; rfl, ?_⟩
          · obtain ⟨a0, a1, a2, _⟩ := Has3.store ⟨p0, p1, p2, p3⟩ (.bool false) (.int .u64 0) (.int .u64 (n : Int))
            generalize ((w2.setCell _ _).setCell _ _).setCell _ _ = WW at a0 a1 a2 ⊢
            simp [results, Tryd.results11, go_sem, a0, a1, a2]
          · exact bse (bse (bse HBr.out (Nat.le_refl _) _) (Nat.le_refl _) _) (Nat.le_refl _) _
end Go.Proofs.YtollaiabcnmebaaDoor
