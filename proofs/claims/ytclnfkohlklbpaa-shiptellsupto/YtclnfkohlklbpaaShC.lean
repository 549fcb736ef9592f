/- ship.Next, ship.Take. -/
import Derived.Test.YtclnfkohlklbpaaShA
import Derived.Test.YtclnfkohlklbpaaShB
set_option linter.unusedVariables false
set_option linter.unusedSimpArgs false
namespace Go.Proofs.Ytclnfkohlklbpaa
open Go.RowKit

theorem own_open0 {α : Type} {E : Enc α} {w : World} {B t : Nat} {v : Value} {l : List α} (h : w.ownsRow B t E.k v l.length (rowOf E l)) : ∃ a c, v = .slice a l.length c ∧ l.length ≤ c ∧ Lies E w a l ∧ (a = none → c = 0) ∧ ∀ g o, a = some ⟨g, o, none⟩ → B ≤ g := by
  rcases own_form h with ⟨rfl, rfl⟩ | ⟨g, c, rfl, ho⟩
  · exact ⟨none, 0, rfl, Nat.le_refl _, Lies.nil _ _ _, fun _ => rfl, fun g o e => by simp at e⟩
  · exact ⟨_, c, rfl, ho.le, ho.lies, fun e => by simp at e, fun g' o' e => by simp at e; obtain ⟨rfl, _⟩ := e; exact ho.base⟩
theorem lies_from {w : World} {ad : Addr} {l : List En} (h : Lies enE w (some ad) l) (n : Nat) : Lies enE w (some (ad.add (n * 13))) (l.drop n) := by
  by_cases hl : l = []
  · subst hl; rw [List.drop_nil]; exact Lies.nil _ _ _
  · obtain ⟨g, o, e, -, -⟩ := h 0 (List.length_pos_iff.2 hl)
    obtain rfl := Option.some.inj e
    rw [add_addr]
    exact h.drop n
/-- What Next says. -/
def nextE (h l : List En) (many : Int) : Int := if begE h l = 0 then (if begB h l = true then (if many < 0 ∨ 30 < many then 3 else 0) else 4) else begE h l
def nextL (h l : List En) (many : Int) : List En := if nextE h l many = 0 then (l.drop h.length).take many.toNat else []
set_option maxHeartbeats 16000000 in
set_option maxRecDepth 100000 in
theorem next_bad (a a' : Option Addr) (c c' : Nat) (h l : List En) (many : Int) (w : World) (hc : h.length ≤ c) (hc' : l.length ≤ c') (hs : Lies enE w a h) (hs' : Lies enE w a' l) (h0 : ¬ nextE h l many = 0) :
    Calls Try.prog 4 #[.slice a h.length c, .slice a' l.length c', .int .i64 many] w fun e w' => e = .returned (.tuple #[.slice none 0 0, .int .i64 (nextE h l many)]) ∧ Below w.heap.size w w' := by
  have HBg := Lib.hid (begins_any a a' c c' h l w hc hc' hs hs')
  unfold nextE at *
  generalize begE h l = r at *
  generalize begB h l = b at *
  generalize h.length = N at *
  generalize l.length = M at *
  clear hs hs' hc hc'
  by_cases h1 : r = 0
  · subst h1
    rw [if_pos rfl] at *
    by_cases h2 : b = true
    · subst h2
      rw [if_pos rfl] at *
      by_cases h3 : many < 0 ∨ 30 < many
      · rw [if_pos h3]
        clear h0
        by_cases h4 : many < 0
        · clear h3
          have d1 : decide (many < 0) = true := decide_eq_true h4
          go_enter Try.func4, Try.ntmps4
          go_wp2_with fail
          refine HBg.out.mono ?_
          rintro e w1 ⟨rfl, hb1⟩
          have HB1 := Lib.hid hb1
          clear hb1 HBg
          go_wp2_with fail
          go_ret2
          exact ⟨rfl, HB1.out⟩
        · have h5 : 30 < many := by omega
          have d1 : decide (many < 0) = false := decide_eq_false h4
          have d2 : decide (30 < many) = true := decide_eq_true h5
          clear h3
          go_enter Try.func4, Try.ntmps4
          go_wp2_with fail
          refine HBg.out.mono ?_
          rintro e w1 ⟨rfl, hb1⟩
          have HB1 := Lib.hid hb1
          clear hb1 HBg
          go_wp2_with fail
          go_ret2
          exact ⟨rfl, HB1.out⟩
      · rw [if_neg h3] at h0; exact absurd rfl h0
    · have : b = false := by cases b <;> simp_all
      subst this
      rw [if_neg h2]
      clear h0 h2
      go_enter Try.func4, Try.ntmps4
      go_wp2_with fail
      refine HBg.out.mono ?_
      rintro e w1 ⟨rfl, hb1⟩
      have HB1 := Lib.hid hb1
      clear hb1 HBg
      go_wp2_with fail
      go_ret2
      exact ⟨rfl, HB1.out⟩
  · rw [if_neg h1] at *
    have hI : (r != 0) = true := by rw [bne_iff_ne]; exact h1
    clear h0
    go_enter Try.func4, Try.ntmps4
    go_wp2_with fail
    refine HBg.out.mono ?_
    rintro e w1 ⟨rfl, hb1⟩
    have HB1 := Lib.hid hb1
    clear hb1 HBg
    go_wp2_with fail
    go_ret2
    exact ⟨rfl, HB1.out⟩

set_option maxHeartbeats 16000000 in
set_option maxRecDepth 100000 in
theorem next_ok (a a' : Option Addr) (c c' : Nat) (h l : List En) (many : Int) (w : World) (hc : h.length ≤ c) (hc' : l.length ≤ c') (hs : Lies enE w a h) (hs' : Lies enE w a' l) (hn : a' = none → c' = 0) (h0 : nextE h l many = 0) :
    Calls Try.prog 4 #[.slice a h.length c, .slice a' l.length c', .int .i64 many] w fun e w' => ∃ v, e = .returned (.tuple #[v, .int .i64 0]) ∧ w'.ownsRow w.heap.size 44 enE.k v (nextL h l many).length (rowOf enE (nextL h l many)) ∧ Below w.heap.size w w' := by
  have HBg := Lib.hid (begins_any a a' c c' h l w hc hc' hs hs')
  rw [show nextL h l many = (l.drop h.length).take many.toNat by unfold nextL; rw [if_pos h0]]
  have h1 : begE h l = 0 := by unfold nextE at h0; by_cases q : begE h l = 0; exact q; rw [if_neg q] at h0; exact h0
  have h2 : begB h l = true := by unfold nextE at h0; rw [if_pos h1] at h0; by_cases q : begB h l = true; exact q; rw [if_neg q] at h0; exact absurd h0 (by decide)
  have h3 : ¬ (many < 0 ∨ 30 < many) := by unfold nextE at h0; rw [if_pos h1, if_pos h2] at h0; intro q; rw [if_pos q] at h0; exact absurd h0 (by decide)
  have hle : h.length ≤ l.length := by unfold begB at h2; rw [Bool.and_eq_true] at h2; simpa using h2.1
  have hl30 : l.length ≤ 30 := logE_len (by unfold begE at h1; by_cases q : logE h = 0; rw [if_pos q] at h1; exact h1; rw [if_neg q] at h1; exact absurd h1 q)
  rw [h1, if_pos rfl, h2] at HBg
  obtain ⟨m, rfl⟩ : ∃ m : Nat, many = m := ⟨many.toNat, by omega⟩
  rw [Int.toNat_natCast]
  obtain ⟨D, hD⟩ : ∃ D, l.length = h.length + D := ⟨l.length - h.length, by omega⟩
  have d1 : decide ((m : Int) < 0) = false := decide_eq_false (by omega)
  have d2 : decide (30 < (m : Int)) = false := decide_eq_false (by omega)
  have hdl : (l.drop h.length).length = D := by rw [List.length_drop]; omega
  have hm3 : m ≤ 30 := by omega
  clear h0 h1 h2 h3
  by_cases hcN : c' = h.length
  · have hD0 : D = 0 := by omega
    subst hD0
    have e0 : l.drop h.length = [] := List.length_eq_zero_iff.1 hdl
    rw [e0, List.take_nil]
    have HC0 : Hid (∀ W : World, Calls Try.prog 12 #[.slice a' 0 0] W fun e w' => ∃ v, e = .returned v ∧ w'.ownsRow W.heap.size 44 enE.k v ([] : List En).length (rowOf enE ([] : List En)) ∧ Below W.heap.size W w') := fun W => cloneE_any a' 0 [] W (by simp) (Lies.nil _ _ _)
    rw [Nat.add_zero] at hD
    rw [hD] at HBg ⊢
    rw [hcN] at HBg ⊢
    generalize h.length = N at *
    clear hs hs' hc hc' hn hle hl30 hdl e0 hcN hD
    have hm0 : (0 : Int) ≤ (m : Int) := by omega
    have hN0 : (0 : Int) ≤ (N : Int) := by omega
    have x4 : min (m : Int) 0 = 0 := by omega
    go_enter Try.func4, Try.ntmps4
    go_wp2_with fail
    refine HBg.out.mono ?_
    rintro e w1 ⟨rfl, hb1⟩
    have HB1 := Lib.hid hb1
    clear hb1 HBg
    go_wp2_with fail
    have HB1' := HB1.out
    refine (HC0.out _).mono ?_
    rintro e w2 ⟨v2, rfl, ho, hb2⟩
    have HO := Lib.hid (row_base ho HB1.out.size)
    have HB2 := Lib.hid (btr HB1.out hb2)
    clear hb2 HB1 HB1' HC0 ho
    go_wp2_with fail
    go_ret2
    exact ⟨_, rfl, HO.out, HB2.out⟩
  · obtain ⟨E, hE⟩ : ∃ E, c' = h.length + E := ⟨c' - h.length, by omega⟩
    have hE0 : ¬ E = 0 := by omega
    have hDE : D ≤ E := by omega
    obtain ⟨ad, rfl⟩ : ∃ ad, a' = some ad := by
      cases a' with
      | none => exact absurd (hn rfl) (by omega)
      | some ad => exact ⟨ad, rfl⟩
    have hlr := lies_from hs' h.length
    have HC0 : Hid (∀ W : World, Below w.heap.size w W → Calls Try.prog 12 #[.slice (some (ad.add (h.length * 13))) ((l.drop h.length).take m).length E] W fun e w' => ∃ v, e = .returned v ∧ w'.ownsRow W.heap.size 44 enE.k v ((l.drop h.length).take m).length (rowOf enE ((l.drop h.length).take m)) ∧ Below W.heap.size W w') := fun W hW => cloneE_any (some (ad.add (h.length * 13))) E ((l.drop h.length).take m) W (by rw [List.length_take]; omega) ((hlr.below hW).take m)
    rw [show ((l.drop h.length).take m).length = min m D by rw [List.length_take, hdl]] at HC0 ⊢
    generalize (l.drop h.length).take m = R at *
    rw [hD, hE] at HBg ⊢
    generalize h.length = N at *
    clear hs hs' hc hc' hn hle hlr hdl hcN hE hD
    have hm0 : (0 : Int) ≤ (m : Int) := by omega
    have hN0 : (0 : Int) ≤ (N : Int) := by omega
    have hDE' : (D : Int) ≤ (E : Int) := by omega
    by_cases hmD : m ≤ D
    · rw [show min m D = m by omega] at HC0 ⊢
      have x1 : (m : Int) ≤ (D : Int) := by omega
      have x2 : m ≤ E := by omega
      have x3 : (m : Int) ≤ (E : Int) := by omega
      have x4 : min (m : Int) (D : Int) = (m : Int) := by omega
      have x5 : ¬ (D : Int) < (m : Int) := by omega
      go_enter Try.func4, Try.ntmps4
      go_wp2_with fail
      refine HBg.out.mono ?_
      rintro e w1 ⟨rfl, hb1⟩
      have HB1 := Lib.hid hb1
      clear hb1 HBg
      go_wp2_with fail
      have HB1' := HB1.out
      refine (HC0.out _ HB1').mono ?_
      rintro e w2 ⟨v2, rfl, ho, hb2⟩
      have HO := Lib.hid (row_base ho HB1.out.size)
      have HB2 := Lib.hid (btr HB1.out hb2)
      clear hb2 HB1 HB1' HC0 ho
      go_wp2_with fail
      go_ret2
      exact ⟨_, rfl, HO.out, HB2.out⟩
    · rw [show min m D = D by omega] at HC0 ⊢
      have x1 : (D : Int) < (m : Int) := by omega
      have x4 : min (m : Int) (D : Int) = (D : Int) := by omega
      have x5 : ¬ (m : Int) < (D : Int) := by omega
      have x6 : ¬ (m : Int) ≤ (D : Int) := by omega
      go_enter Try.func4, Try.ntmps4
      go_wp2_with fail
      refine HBg.out.mono ?_
      rintro e w1 ⟨rfl, hb1⟩
      have HB1 := Lib.hid hb1
      clear hb1 HBg
      go_wp2_with fail
      have HB1' := HB1.out
      refine (HC0.out _ HB1').mono ?_
      rintro e w2 ⟨v2, rfl, ho, hb2⟩
      have HO := Lib.hid (row_base ho HB1.out.size)
      have HB2 := Lib.hid (btr HB1.out hb2)
      clear hb2 HB1 HB1' HC0 ho
      go_wp2_with fail
      go_ret2
      exact ⟨_, rfl, HO.out, HB2.out⟩

/-- What Take says. -/
def takeE (h m : List En) : Int := if logE h = 0 then logE (h ++ m) else logE h
def takeL (h m : List En) : List En := if takeE h m = 0 then h ++ m else []
theorem logE_long {l : List En} (h : 30 < l.length) : logE l = 2 := by unfold logE; rw [if_pos h]
set_option maxHeartbeats 16000000 in
set_option maxRecDepth 100000 in
theorem take_bad (a a' : Option Addr) (c c' : Nat) (h l : List En) (w : World) (hc : h.length ≤ c) (hc' : l.length ≤ c') (hs : Lies enE w a h) (hs' : Lies enE w a' l) (hn : a = none → c = 0) (hn' : a' = none → c' = 0) (h0 : ¬ takeE h l = 0) :
    Calls Try.prog 5 #[.slice a h.length c, .slice a' l.length c'] w fun e w' => e = .returned (.tuple #[.slice none 0 0, .int .i64 (takeE h l)]) ∧ Below w.heap.size w w' := by
  have HC := Lib.hid (lcheck_any a c h w hc hs)
  by_cases h1 : logE h = 0
  · have hh := logE_len h1
    rw [show takeE h l = logE (h ++ l) by unfold takeE; rw [if_pos h1]] at *
    by_cases h2 : 30 - (h.length : Int) < (l.length : Int)
    · rw [logE_long (by rw [List.length_append]; omega)]
      rw [h1] at HC
      generalize h.length = N at *
      generalize l.length = M at *
      clear hs hs' hc hc' h0 h1 hn hn'
      have hM0 : (0 : Int) ≤ (M : Int) := by omega
      have hw0 : IntKind.i64.wrap (30 - (N : Int)) = 30 - (N : Int) := by rw [IntKind.wrap_i64]; omega
      go_enter Try.func5, Try.ntmps5
      go_wp2_with fail
      refine HC.out.mono ?_
      rintro e w1 ⟨rfl, hb1⟩
      have HB1 := Lib.hid hb1
      clear hb1 HC
      go_wp2_with fail
      go_ret2
      exact ⟨rfl, HB1.out⟩
    · have hb : logE h = 0 := h1
      have HCat : Hid (∀ (W : World) (b : Nat), Below w.heap.size w W → W.cell? ⟨b, 0, none⟩ = some (.slice a h.length c) → W.cell? ⟨b, 1, none⟩ = some (.slice a' l.length c') → b < W.heap.size → Calls Try.prog 14 #[.slice (some ⟨b, 0, none⟩) 2 2] W fun e w' => ∃ a3 c3, e = .returned (.slice a3 (h ++ l).length c3) ∧ (h ++ l).length ≤ c3 ∧ Lies enE w' a3 (h ++ l) ∧ w'.ownsRow W.heap.size 44 enE.k (.slice a3 (h ++ l).length c3) (h ++ l).length (rowOf enE (h ++ l)) ∧ Below W.heap.size W w') := fun W b hW k1 k2 hlt => (concat_en b a a' c c' h l W (hs.below hW) (hs'.below hW) hn hn' k1 k2 hlt (by omega) (by omega)).mono fun e w' ⟨v, q1, q2, q3⟩ => by
        obtain ⟨a3, c3, rfl, z1, z2, -, -⟩ := own_open0 q2
        exact ⟨a3, c3, q1, z1, z2, q2, q3⟩
      have HL2 : Hid (∀ (W : World) (a3 : Option Addr) (c3 : Nat), (h ++ l).length ≤ c3 → Lies enE W a3 (h ++ l) → Calls Try.prog 13 #[.slice a3 (h ++ l).length c3] W fun e w' => e = .returned (.int .i64 (logE (h ++ l))) ∧ Below W.heap.size W w') := fun W a3 c3 z1 z2 => lcheck_any a3 c3 (h ++ l) W z1 z2
      rw [h1] at HC
      have hw0 : IntKind.i64.wrap (30 - (h.length : Int)) = 30 - (h.length : Int) := by rw [IntKind.wrap_i64]; omega
      have hN0 : (0 : Int) ≤ (h.length : Int) := by omega
      generalize (h ++ l).length = K at *
      generalize rowOf enE (h ++ l) = row at *
      generalize logE (h ++ l) = r at *
      have hI : (r != 0) = true := by rw [bne_iff_ne]; exact h0
      clear h0
      generalize h.length = N at *
      generalize l.length = M at *
      clear hs hs' hc hc' hn hn' hh h1 hb
      go_enter Try.func5, Try.ntmps5
      go_wp2_with fail
      refine HC.out.mono ?_
      rintro e w1 ⟨rfl, hb1⟩
      have HB1 := Lib.hid hb1
      clear hb1 HC
      go_wp2_with fail
      have hk := Blk.new w1 [.slice a N c, .slice a' M c'] 22
      refine (HCat.out _ w1.heap.size (bal HB1.out _) hk.two.1.1 hk.two.1.2 hk.lt).mono ?_
      rintro e w2 ⟨a3, c3, rfl, hc3, hl3, ho3, hb2⟩
      have HB1a := bal HB1.out (.cells #[.slice a N c, .slice a' M c'] 22)
      have HB2 := Lib.hid (btr HB1a hb2)
      have HO2 := Lib.hid (row_base ho3 HB1a.size)
      have HC3 := Lib.hid hc3
      have HL3 := Lib.hid hl3
      clear hb2 hc3 hl3 ho3 hk HB1a HB1 HCat
      go_wp2_with fail
      refine (HL2.out _ a3 c3 HC3.out HL3.out).mono ?_
      rintro e w3 ⟨rfl, hb3⟩
      have HB3 := Lib.hid (btr HB2.out hb3)
      have HO3 := Lib.hid (own_keep HO2.out hb3)
      clear hb3 HB2 HO2 HL3 HL2 HC3
      go_wp2_with fail
      go_ret2
      exact ⟨rfl, HB3.out⟩
  · rw [show takeE h l = logE h by unfold takeE; rw [if_neg h1]] at *
    generalize logE h = r at *
    generalize h.length = N at *
    generalize l.length = M at *
    have hI : (r != 0) = true := by rw [bne_iff_ne]; exact h1
    clear hs hs' hc hc' h0 h1 hn hn'
    go_enter Try.func5, Try.ntmps5
    go_wp2_with fail
    refine HC.out.mono ?_
    rintro e w1 ⟨rfl, hb1⟩
    have HB1 := Lib.hid hb1
    clear hb1 HC
    go_wp2_with fail
    go_ret2
    exact ⟨rfl, HB1.out⟩
set_option maxHeartbeats 16000000 in
set_option maxRecDepth 100000 in
theorem take_ok (a a' : Option Addr) (c c' : Nat) (h l : List En) (w : World) (hc : h.length ≤ c) (hc' : l.length ≤ c') (hs : Lies enE w a h) (hs' : Lies enE w a' l) (hn : a = none → c = 0) (hn' : a' = none → c' = 0) (h0 : takeE h l = 0) :
    Calls Try.prog 5 #[.slice a h.length c, .slice a' l.length c'] w fun e w' => ∃ v, e = .returned (.tuple #[v, .int .i64 0]) ∧ w'.ownsRow w.heap.size 44 enE.k v (takeL h l).length (rowOf enE (takeL h l)) ∧ Below w.heap.size w w' := by
  rw [show takeL h l = h ++ l by unfold takeL; rw [if_pos h0]]
  have HC := Lib.hid (lcheck_any a c h w hc hs)
  have h1 : logE h = 0 := by unfold takeE at h0; by_cases q : logE h = 0; exact q; rw [if_neg q] at h0; exact h0
  have hh := logE_len h1
  have h3 : logE (h ++ l) = 0 := by unfold takeE at h0; rw [if_pos h1] at h0; exact h0
  have hlen := logE_len h3
  rw [List.length_append] at hlen
  have h2 : ¬ 30 - (h.length : Int) < (l.length : Int) := by omega
  clear hlen
  have HCat : Hid (∀ (W : World) (b : Nat), Below w.heap.size w W → W.cell? ⟨b, 0, none⟩ = some (.slice a h.length c) → W.cell? ⟨b, 1, none⟩ = some (.slice a' l.length c') → b < W.heap.size → Calls Try.prog 14 #[.slice (some ⟨b, 0, none⟩) 2 2] W fun e w' => ∃ a3 c3, e = .returned (.slice a3 (h ++ l).length c3) ∧ (h ++ l).length ≤ c3 ∧ Lies enE w' a3 (h ++ l) ∧ w'.ownsRow W.heap.size 44 enE.k (.slice a3 (h ++ l).length c3) (h ++ l).length (rowOf enE (h ++ l)) ∧ Below W.heap.size W w') := fun W b hW k1 k2 hlt => (concat_en b a a' c c' h l W (hs.below hW) (hs'.below hW) hn hn' k1 k2 hlt (by omega) (by omega)).mono fun e w' ⟨v, q1, q2, q3⟩ => by
    obtain ⟨a3, c3, rfl, z1, z2, -, -⟩ := own_open0 q2
    exact ⟨a3, c3, q1, z1, z2, q2, q3⟩
  have HL2 : Hid (∀ (W : World) (a3 : Option Addr) (c3 : Nat), (h ++ l).length ≤ c3 → Lies enE W a3 (h ++ l) → Calls Try.prog 13 #[.slice a3 (h ++ l).length c3] W fun e w' => e = .returned (.int .i64 (logE (h ++ l))) ∧ Below W.heap.size W w') := fun W a3 c3 z1 z2 => lcheck_any a3 c3 (h ++ l) W z1 z2
  rw [h1] at HC
  have hw0 : IntKind.i64.wrap (30 - (h.length : Int)) = 30 - (h.length : Int) := by rw [IntKind.wrap_i64]; omega
  have hN0 : (0 : Int) ≤ (h.length : Int) := by omega
  rw [h3] at HL2
  clear h3 h0
  generalize h ++ l = L at *
  generalize L.length = K at *
  generalize rowOf enE L = row at *
  generalize h.length = N at *
  generalize l.length = M at *
  clear hs hs' hc hc' hn hn' hh h1
  go_enter Try.func5, Try.ntmps5
  go_wp2_with fail
  refine HC.out.mono ?_
  rintro e w1 ⟨rfl, hb1⟩
  have HB1 := Lib.hid hb1
  clear hb1 HC
  go_wp2_with fail
  have hk := Blk.new w1 [.slice a N c, .slice a' M c'] 22
  refine (HCat.out _ w1.heap.size (bal HB1.out _) hk.two.1.1 hk.two.1.2 hk.lt).mono ?_
  rintro e w2 ⟨a3, c3, rfl, hc3, hl3, ho3, hb2⟩
  have HB1a := bal HB1.out (.cells #[.slice a N c, .slice a' M c'] 22)
  have HB2 := Lib.hid (btr HB1a hb2)
  have HO2 := Lib.hid (row_base ho3 HB1a.size)
  have HC3 := Lib.hid hc3
  have HL3 := Lib.hid hl3
  clear hb2 hc3 hl3 ho3 hk HB1a HB1 HCat
  go_wp2_with fail
  refine (HL2.out _ a3 c3 HC3.out HL3.out).mono ?_
  rintro e w3 ⟨rfl, hb3⟩
  have HB3 := Lib.hid (btr HB2.out hb3)
  have HO3 := Lib.hid (own_keep HO2.out hb3)
  clear hb3 HB2 HO2 HL3 HL2 HC3
  go_wp2_with fail
  go_ret2
  exact ⟨_, rfl, HO3.out, HB3.out⟩
end Go.Proofs.Ytclnfkohlklbpaa
