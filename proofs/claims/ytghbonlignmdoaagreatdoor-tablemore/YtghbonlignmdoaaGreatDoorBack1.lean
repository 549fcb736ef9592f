/- What is printed is parsed as it was: on the answers alone, without Go. -/
import Derived.Test.YtghbonlignmdoaaGreatDoorPr16
import Derived.Test.YtghbonlignmdoaaGreatDoorParse
set_option linter.unusedVariables false
set_option linter.unusedSimpArgs false
namespace Go.Proofs.YtghbonlignmdoaaGreatDoor

def dec3 (n : Nat) : List UInt8 :=
  if n < 10 then [UInt8.ofNat (48 + n)] else if n < 100 then [UInt8.ofNat (48 + n / 10), UInt8.ofNat (48 + n % 10)]
  else [UInt8.ofNat (48 + n / 10 / 10), UInt8.ofNat (48 + n / 10 % 10), UInt8.ofNat (48 + n % 10)]
theorem dec3_eq (n : Nat) (h : n < 1000) : Lib.decDigits n = dec3 n := by
  unfold dec3
  rw [Lib.decDigits]
  split
  · rfl
  · rw [Lib.decDigits]
    split
    · rw [if_pos (by omega)]; rfl
    · rw [if_neg (by omega), Lib.decDigits, dif_pos (by omega)]; rfl
theorem dec3_nread : ∀ n : Fin 256, nread (dec3 n.val) 3 = some n.val := by decide +kernel
theorem dec3_no : ∀ n : Fin 256, (46 : UInt8) ∉ dec3 n.val ∧ (58 : UInt8) ∉ dec3 n.val ∧ (dec3 n.val).length ≤ 3 := by decide +kernel
theorem dec_nread (n : Nat) (h : n < 256) : nread (Lib.decDigits n) 3 = some n := by rw [dec3_eq n (by omega)]; exact dec3_nread ⟨n, h⟩
theorem dec_no (n : Nat) (h : n < 256) : (46 : UInt8) ∉ Lib.decDigits n ∧ (58 : UInt8) ∉ Lib.decDigits n ∧ (Lib.decDigits n).length ≤ 3 := by rw [dec3_eq n (by omega)]; exact dec3_no ⟨n, h⟩

theorem join_one (w : List UInt8) (c : UInt8) : Lib.join [w] [c] = w := by simp [Lib.join, List.intercalate]
theorem join_more (w x : List UInt8) (r : List (List UInt8)) (c : UInt8) : Lib.join (w :: x :: r) [c] = w ++ c :: Lib.join (x :: r) [c] := by
  simp [Lib.join, List.intercalate]

theorem spl_append (c : UInt8) : ∀ (w l : List UInt8), c ∉ w → spl c (w ++ c :: l) = w :: spl c l
  | [], l, _ => by simp [spl]
  | b :: w, l, h => by
    have hb : b ≠ c := fun e => h (by simp [e])
    have hw : c ∉ w := fun e => h (List.mem_cons_of_mem _ e)
    rw [List.cons_append, spl, if_neg hb, spl_append c w l hw]
theorem spl_none (c : UInt8) : ∀ w : List UInt8, c ∉ w → spl c w = [w]
  | [], _ => rfl
  | b :: w, h => by
    have hb : b ≠ c := fun e => h (by simp [e])
    have hw : c ∉ w := fun e => h (List.mem_cons_of_mem _ e)
    rw [spl, if_neg hb, spl_none c w hw]
theorem spl_join (c : UInt8) : ∀ ws : List (List UInt8), ws ≠ [] → (∀ w ∈ ws, c ∉ w) → spl c (Lib.join ws [c]) = ws
  | [], h, _ => absurd rfl h
  | [w], _, h => by rw [join_one]; exact spl_none c w (h w (by simp))
  | w :: x :: r, _, h => by
    rw [join_more, spl_append c w _ (h w (by simp)), spl_join c (x :: r) (by simp) (fun y hy => h y (List.mem_cons_of_mem _ hy))]

theorem join_len1 (c : UInt8) (M : Nat) : ∀ ws : List (List UInt8), ws ≠ [] → (∀ w ∈ ws, w.length ≤ M) → (Lib.join ws [c]).length + 1 ≤ ws.length * (M + 1)
  | [], h, _ => absurd rfl h
  | [w], _, h => by
    have := h w (by simp)
    rw [join_one]; simp; omega
  | w :: x :: r, _, h => by
    have h1 := h w (by simp)
    have h2 := join_len1 c M (x :: r) (by simp) (fun y hy => h y (List.mem_cons_of_mem _ hy))
    rw [join_more]
    simp only [List.length_append, List.length_cons] at h2 ⊢
    rw [Nat.add_mul (r.length + 1) 1]
    omega
theorem join_mem (c b : UInt8) : ∀ ws : List (List UInt8), (∀ w ∈ ws, b ∉ w) → b ≠ c → b ∉ Lib.join ws [c]
  | [], _, _ => by simp [Lib.join, List.intercalate]
  | [w], h, _ => by rw [join_one]; exact h w (by simp)
  | w :: x :: r, h, hb => by
    rw [join_more]
    intro hm
    rcases List.mem_append.1 hm with hm | hm
    · exact h w (by simp) hm
    · rcases List.mem_cons.1 hm with hm | hm
      · exact hb hm
      · exact join_mem c b (x :: r) (fun y hy => h y (List.mem_cons_of_mem _ hy)) hb hm

theorem four_mem {n : Nat} {w : List UInt8} (h : w ∈ four n) : ∃ k, k < 256 ∧ w = Lib.decDigits k := by
  simp only [four, List.mem_cons, List.not_mem_nil, or_false] at h
  rcases h with rfl | rfl | rfl | rfl
  · exact ⟨_, by omega, rfl⟩
  · exact ⟨_, by omega, rfl⟩
  · exact ⟨_, by omega, rfl⟩
  · exact ⟨_, by omega, rfl⟩
theorem rfour_join (n : Nat) (h : n < 4294967296) : rfour (Lib.join (four n) [46]) = some n := by
  have hs : spl 46 (Lib.join (four n) [46]) = four n := spl_join 46 _ (by simp [four]) (by
    intro w hw
    obtain ⟨k, hk, rfl⟩ := four_mem hw
    exact (dec_no k hk).1)
  unfold rfour
  rw [hs, if_pos (by simp [four])]
  simp only [four, fourAcc]
  rw [dec_nread _ (show n / 16777216 % 256 < 256 by omega), dec_nread _ (show n / 65536 % 256 < 256 by omega), dec_nread _ (show n / 256 % 256 < 256 by omega), dec_nread _ (show n % 256 < 256 by omega)]
  simp only
  rw [if_neg (by omega), if_neg (by omega), if_neg (by omega), if_neg (by omega)]
  congr 1
  omega
theorem four_text (n : Nat) : (Lib.join (four n) [46]).length ≤ 15 ∧ (58 : UInt8) ∉ Lib.join (four n) [46] := by
  constructor
  · have := join_len1 46 3 (four n) (by simp [four]) (by
      intro w hw
      obtain ⟨k, hk, rfl⟩ := four_mem hw
      exact (dec_no k hk).2.2)
    simp only [four, List.length_cons, List.length_nil] at this ⊢
    omega
  · exact join_mem 46 58 _ (by
      intro w hw
      obtain ⟨k, hk, rfl⟩ := four_mem hw
      exact (dec_no k hk).2.1) (by decide)

/-! Sixteen bytes. -/
theorem dig_hexd' : ∀ k : Fin 16, dig (hexd k.val) = k.val := by decide +kernel
theorem dig_hexd (k : Nat) (h : k < 16) : dig (hexd k) = k := dig_hexd' ⟨k, h⟩
theorem hexd_no' : ∀ k : Fin 16, hexd k.val ≠ 58 ∧ hexd k.val ≠ 46 := by decide +kernel
theorem hexd_no (k : Nat) (h : k < 16) : hexd k ≠ 58 ∧ hexd k ≠ 46 := hexd_no' ⟨k, h⟩

theorem rgrp_hexs (g : Nat) (h : g < 65536) : rgrp (hexs g) = some g := by
  have d1 := dig_hexd (g % 16) (by omega)
  have d2 := dig_hexd (g / 16 % 16) (by omega)
  have d3 := dig_hexd (g / 16 / 16 % 16) (by omega)
  have d4 := dig_hexd (g / 16 / 16 / 16) (by omega)
  unfold hexs
  split
  · have := dig_hexd g (by omega)
    simp only [rgrp, puS, pu, this, List.length_cons, List.length_nil]
    rw [if_neg (by decide), if_neg (by simp), if_neg (by omega), if_neg (by omega)]
    simp
  · split
    · have := dig_hexd (g / 16) (by omega)
      simp only [rgrp, puS, pu, this, d1, List.length_cons, List.length_nil]
      rw [if_neg (by decide), if_neg (by simp), if_neg (by omega), if_neg (by omega), if_neg (by omega), if_neg (by omega)]
      simp; omega
    · split
      · have := dig_hexd (g / 16 / 16) (by omega)
        simp only [rgrp, puS, pu, this, d1, d2, List.length_cons, List.length_nil]
        rw [if_neg (by decide), if_neg (by simp), if_neg (by omega), if_neg (by omega), if_neg (by omega), if_neg (by omega), if_neg (by omega), if_neg (by omega)]
        simp; omega
      · simp only [rgrp, puS, pu, d1, d2, d3, d4, List.length_cons, List.length_nil]
        rw [if_neg (by decide), if_neg (by simp), if_neg (by omega), if_neg (by omega), if_neg (by omega), if_neg (by omega), if_neg (by omega), if_neg (by omega), if_neg (by omega), if_neg (by omega)]
        simp; omega
theorem hexs_no (g : Nat) (h : g < 65536) : (58 : UInt8) ∉ hexs g ∧ (46 : UInt8) ∉ hexs g ∧ (hexs g).length ≤ 4 ∧ hexs g ≠ [] := by
  have n1 := hexd_no (g % 16) (by omega)
  have n2 := hexd_no (g / 16 % 16) (by omega)
  have n3 := hexd_no (g / 16 / 16 % 16) (by omega)
  have n4 := hexd_no (g / 16 / 16 / 16) (by omega)
  unfold hexs
  split
  · have := hexd_no g (by omega)
    simp [Ne.symm this.1, Ne.symm this.2]
  · split
    · have := hexd_no (g / 16) (by omega)
      simp [Ne.symm this.1, Ne.symm this.2, Ne.symm n1.1, Ne.symm n1.2]
    · split
      · have := hexd_no (g / 16 / 16) (by omega)
        simp [Ne.symm this.1, Ne.symm this.2, Ne.symm n1.1, Ne.symm n1.2, Ne.symm n2.1, Ne.symm n2.2]
      · simp [Ne.symm n1.1, Ne.symm n1.2, Ne.symm n2.1, Ne.symm n2.2, Ne.symm n3.1, Ne.symm n3.2, Ne.symm n4.1, Ne.symm n4.2]

theorem rgs_hexs (m : Bool) : ∀ gs : List Nat, gs ≠ [] → (∀ x ∈ gs, x < 65536) → rgs m (gs.map hexs) = some gs
  | [], h, _ => absurd rfl h
  | [g], _, h => by
    have hg := h g (by simp)
    rw [List.map_cons, List.map_nil, rgs_one, if_neg (fun e => (hexs_no g hg).2.1 e.2), rgrp_hexs g hg]; rfl
  | g :: x :: r, _, h => by
    have hg := h g (by simp)
    rw [List.map_cons, rgs_more (by simp), rgrp_hexs g hg, rgs_hexs m (x :: r) (by simp) (fun y hy => h y (List.mem_cons_of_mem _ hy))]; rfl
theorem hexs_mem {gs : List Nat} (h : ∀ x ∈ gs, x < 65536) {w : List UInt8} (hw : w ∈ gs.map hexs) : (58 : UInt8) ∉ w ∧ (46 : UInt8) ∉ w ∧ w.length ≤ 4 ∧ w ≠ [] := by
  obtain ⟨g, hg, rfl⟩ := List.mem_map.1 hw
  exact hexs_no g (h g hg)
theorem rgroups_ptext (m : Bool) (gs : List Nat) (h : ∀ x ∈ gs, x < 65536) : rgroups m (ptext gs) = some gs := by
  unfold rgroups
  cases gs with
  | nil => rfl
  | cons g r =>
    have hne : ptext (g :: r) ≠ [] := by
      have hn := (hexs_no g (h g (by simp))).2.2.2
      intro e
      cases r with
      | nil => unfold ptext at e; rw [List.map_cons, List.map_nil, join_one] at e; exact hn e
      | cons x r => unfold ptext at e; rw [List.map_cons, List.map_cons, join_more] at e; simp at e
    rw [if_neg hne]
    unfold ptext
    rw [spl_join 58 _ (by simp) (fun w hw => (hexs_mem h hw).1)]
    exact rgs_hexs m _ (by simp) h

/-! Where the first double colon stands. -/
def sh (k : Nat) (x : Int) : Int := if x = -1 then -1 else x + k
theorem sh_sh (a b : Nat) (x : Int) (h : -1 ≤ x) : sh a (sh b x) = sh (b + a) x := by
  unfold sh
  split
  · rw [if_pos rfl]
  · rw [if_neg (by omega)]; omega
theorem idx_ne (b : UInt8) (l : List UInt8) (hb : b ≠ 58) : Lib.index (b :: l) [58, 58] = sh 1 (Lib.index l [58, 58]) := by
  rw [Lib.index]
  have : ([58, 58] : List UInt8).isPrefixOf (b :: l) = false := by simp [List.isPrefixOf, Ne.symm hb]
  rw [this]
  simp [sh]
theorem idx_one (b : UInt8) (l : List UInt8) (hb : b ≠ 58) : Lib.index (58 :: b :: l) [58, 58] = sh 1 (Lib.index (b :: l) [58, 58]) := by
  rw [Lib.index]
  have : ([58, 58] : List UInt8).isPrefixOf (58 :: b :: l) = false := by simp [List.isPrefixOf, Ne.symm hb]
  rw [this]
  simp [sh]
theorem idx_word : ∀ (w l : List UInt8), (58 : UInt8) ∉ w → Lib.index (w ++ l) [58, 58] = sh w.length (Lib.index l [58, 58])
  | [], l, _ => by simp [sh]
  | b :: w, l, h => by
    have hb : b ≠ 58 := fun e => h (by simp [e])
    have hw : (58 : UInt8) ∉ w := fun e => h (List.mem_cons_of_mem _ e)
    rw [List.cons_append, idx_ne b _ hb, idx_word w l hw, sh_sh _ _ _ (Lib.index_ge _ _), List.length_cons]
theorem idx_join (T : List UInt8) : ∀ ws : List (List UInt8), (∀ w ∈ ws, (58 : UInt8) ∉ w ∧ w ≠ []) → Lib.index (Lib.join ws [58] ++ T) [58, 58] = sh (Lib.join ws [58]).length (Lib.index T [58, 58])
  | [], _ => by simp [Lib.join, List.intercalate, sh]
  | [w], h => by rw [join_one]; exact idx_word w T (h w (by simp)).1
  | w :: x :: r, h => by
    have ih := idx_join T (x :: r) (fun y hy => h y (List.mem_cons_of_mem _ hy))
    rw [join_more, List.append_assoc, idx_word w _ (h w (by simp)).1]
    obtain ⟨b, t, hbt, hb⟩ : ∃ b t, Lib.join (x :: r) [58] ++ T = b :: t ∧ b ≠ 58 := by
      have hx := h x (by simp)
      cases x with
      | nil => exact absurd rfl hx.2
      | cons b t =>
        have hb : b ≠ 58 := fun e => hx.1 (by simp [e])
        cases r with
        | nil => exact ⟨b, t ++ T, by rw [join_one]; rfl, hb⟩
        | cons y r => exact ⟨b, t ++ 58 :: Lib.join (y :: r) [58] ++ T, by rw [join_more]; simp, hb⟩
    rw [List.cons_append, hbt, idx_one b t hb, ← hbt, ih, sh_sh _ _ _ (Lib.index_ge _ _), sh_sh _ _ _ (Lib.index_ge _ _)]
    congr 1
    simp only [List.length_append, List.length_cons]
    omega

theorem cut_ptext (gs : List Nat) (h : ∀ x ∈ gs, x < 65536) : (Lib.cut (ptext gs) [58, 58]).2.2 = false := by
  have := idx_join [] (gs.map hexs) (fun w hw => ⟨(hexs_mem h hw).1, (hexs_mem h hw).2.2.2⟩)
  rw [List.append_nil] at this
  have e : Lib.index (ptext gs) [58, 58] = -1 := by unfold ptext; rw [this]; rfl
  unfold Lib.cut
  rw [e]; rfl
theorem cut_two (ga : List Nat) (R : List UInt8) (h : ∀ x ∈ ga, x < 65536) : Lib.cut (ptext ga ++ [58, 58] ++ R) [58, 58] = (ptext ga, R, true) := by
  have := idx_join ([58, 58] ++ R) (ga.map hexs) (fun w hw => ⟨(hexs_mem h hw).1, (hexs_mem h hw).2.2.2⟩)
  have e0 : Lib.index ([58, 58] ++ R) [58, 58] = 0 := by simp [Lib.index, List.isPrefixOf]
  rw [e0] at this
  have e : Lib.index (ptext ga ++ [58, 58] ++ R) [58, 58] = ((ptext ga).length : Int) := by
    rw [List.append_assoc]
    exact this.trans (by simp [sh, ptext])
  unfold Lib.cut
  rw [e, if_pos (by omega)]
  simp

/-! The row of noughts. -/
theorem lrowGo_zero (G : List Nat) : ∀ (l : List Nat) (i f t s : Nat), l = G.drop i → (∀ j, f ≤ j → j < t → G[j]? = some 0) → (∀ j, s ≤ j → j < i → G[j]? = some 0) →
    ∀ j, (lrowGo l i f t s).1 ≤ j → j < (lrowGo l i f t s).2 → G[j]? = some 0
  | [], i, f, t, s, _, h1, _ => by rw [lrowGo]; exact h1
  | g :: r, i, f, t, s, hl, h1, h2 => by
    have hr : r = G.drop (i + 1) := by
      have := congrArg List.tail hl
      simpa using this
    have hi : G[i]? = some g := by
      have := congrArg (fun x => x[0]?) hl
      simp at this
      exact this.symm
    rw [lrowGo]
    split
    · exact lrowGo_zero G r (i + 1) f t (i + 1) hr h1 (fun j a b => by omega)
    · rename_i hg
      have hz : ∀ j, s ≤ j → j < i + 1 → G[j]? = some 0 := by
        intro j a b
        by_cases e : j = i
        · subst e; rw [hi]; simp at hg; rw [hg]
        · exact h2 j a (by omega)
      split
      · exact lrowGo_zero G r (i + 1) s (i + 1) s hr hz hz
      · exact lrowGo_zero G r (i + 1) f t s hr h1 hz
theorem lrow_zero (gs : List Nat) : ∀ j, (lrow gs).1 ≤ j → j < (lrow gs).2 → gs[j]? = some 0 :=
  lrowGo_zero gs gs 0 0 0 0 (by simp) (fun j _ b => by omega) (fun j _ b => by omega)

theorem whole_row (gs : List Nat) (f t : Nat) (h1 : f ≤ t) (h2 : t ≤ gs.length) (hz : ∀ j, f ≤ j → j < t → gs[j]? = some 0) : gs.take f ++ List.replicate (t - f) 0 ++ gs.drop t = gs := by
  apply List.ext_getElem?
  intro j
  have hf : (gs.take f).length = f := by rw [List.length_take]; omega
  by_cases a : j < f
  · rw [List.append_assoc, List.getElem?_append_left (by omega), List.getElem?_take, if_pos a]
  · by_cases b : j < t
    · rw [List.getElem?_append_left (by simp; omega), List.getElem?_append_right (by omega), List.getElem?_replicate, if_pos (by omega), hz j (by omega) b]
    · rw [List.getElem?_append_right (by simp; omega), List.getElem?_drop]
      congr 1
      simp; omega

theorem rsix_psix (gs : List Nat) (h8 : gs.length = 8) (h : ∀ x ∈ gs, x < 65536) : rsix (psix gs) = joinG gs := by
  obtain ⟨l1, l2⟩ := lrow_le gs
  have hz := lrow_zero gs
  unfold psix
  generalize (lrow gs).1 = f at *
  generalize (lrow gs).2 = t at *
  split
  · unfold rsix
    rw [if_pos (cut_ptext gs h), rgroups_ptext true gs h]; rfl
  · rename_i hft
    have ha : ∀ x ∈ gs.take f, x < 65536 := fun x hx => h x (List.mem_of_mem_take hx)
    have hb : ∀ x ∈ gs.drop t, x < 65536 := fun x hx => h x (List.mem_of_mem_drop hx)
    unfold rsix
    rw [cut_two _ _ ha]
    simp only
    rw [if_neg (by simp), rgroups_ptext false _ ha, rgroups_ptext true _ hb]
    simp only [Option.bind_some]
    have e1 : (gs.take f).length = f := by rw [List.length_take]; omega
    have e2 : (gs.drop t).length = 8 - t := by rw [List.length_drop]; omega
    rw [e1, e2, if_pos (by omega), show 8 - f - (8 - t) = t - f by omega, whole_row gs f t l1 l2 hz]

theorem ptext_len (gs : List Nat) (hne : gs ≠ []) (h : ∀ x ∈ gs, x < 65536) : (ptext gs).length + 1 ≤ gs.length * 5 := by
  have := join_len1 58 4 (gs.map hexs) (by simpa using hne) (fun w hw => (hexs_mem h hw).2.2.1)
  rwa [List.length_map] at this
theorem ptext_len0 (gs : List Nat) (h : ∀ x ∈ gs, x < 65536) : (ptext gs).length ≤ gs.length * 5 := by
  by_cases hne : gs = []
  · subst hne; simp [ptext, Lib.join, List.intercalate]
  · have := ptext_len gs hne h; omega
theorem psix_text (gs : List Nat) (h8 : gs.length = 8) (h : ∀ x ∈ gs, x < 65536) : (psix gs).length ≤ 39 ∧ (58 : UInt8) ∈ psix gs := by
  obtain ⟨l1, l2⟩ := lrow_le gs
  unfold psix
  generalize (lrow gs).1 = f at *
  generalize (lrow gs).2 = t at *
  split
  · constructor
    · have := ptext_len gs (by intro e; subst e; simp at h8) h; omega
    · match gs, h8 with
      | a :: b :: r, _ => unfold ptext; rw [List.map_cons, List.map_cons, join_more]; simp
  · rename_i hft
    have ha : ∀ x ∈ gs.take f, x < 65536 := fun x hx => h x (List.mem_of_mem_take hx)
    have hb : ∀ x ∈ gs.drop t, x < 65536 := fun x hx => h x (List.mem_of_mem_drop hx)
    have e1 : (gs.take f).length = f := by rw [List.length_take]; omega
    have e2 : (gs.drop t).length = 8 - t := by rw [List.length_drop]; omega
    have p1 := ptext_len0 _ ha
    have p2 := ptext_len0 _ hb
    rw [e1] at p1
    rw [e2] at p2
    constructor
    · simp only [List.length_append, List.length_cons, List.length_nil]; omega
    · simp

theorem joinG_grps (hi lo : Int) (h0 : 0 ≤ hi) (h1 : hi < 18446744073709551616) (l0 : 0 ≤ lo) (l1 : lo < 18446744073709551616) : joinG (grps hi lo) = some (hi.toNat, lo.toNat) := by
  unfold joinG
  rw [if_pos (grps_len hi lo)]
  simp only [grps, eight, List.map_append, List.map_cons, List.map_nil, List.cons_append, List.nil_append, List.take, List.drop, gnum]
  congr 2 <;> omega

/-- What is printed is parsed as it was. -/
theorem back_any (v : Bool) (hi lo : Int) (h0 : 0 ≤ hi) (h1 : hi < 18446744073709551616) (l0 : 0 ≤ lo) (l1 : lo < 18446744073709551616) (hc : chk v hi lo = 0) :
    rparse (ptxt v hi lo) = some (v, hi.toNat, lo.toNat) ∧ (ptxt v hi lo).length ≤ 39 := by
  unfold ptxt
  rw [if_pos hc]
  cases v
  · have hv : hi = 0 ∧ lo ≤ 4294967295 := by
      rcases chk_cases false hi lo with ⟨_, h⟩ | h
      · simpa using h
      · omega
    obtain ⟨t1, t2⟩ := four_text lo.toNat
    rw [if_neg (by simp)]
    refine ⟨?_, by omega⟩
    unfold rparse
    rw [if_neg (by omega), if_neg t2, rfour_join _ (by omega), hv.1]; rfl
  · obtain ⟨t1, t2⟩ := psix_text (grps hi lo) (grps_len hi lo) (grps_lt hi lo h0 l0)
    rw [if_pos rfl]
    refine ⟨?_, t1⟩
    unfold rparse
    rw [if_neg (by omega), if_pos t2, rsix_psix _ (grps_len hi lo) (grps_lt hi lo h0 l0), joinG_grps hi lo h0 h1 l0 l1]; rfl

theorem joinG_lt {gs : List Nat} {p : Nat × Nat} (h : ∀ x ∈ gs, x < 65536) (e : joinG gs = some p) : p.1 < 18446744073709551616 ∧ p.2 < 18446744073709551616 := by
  unfold joinG at e
  split at e
  · rename_i h8
    injection e with e
    subst e
    have g1 := gnum_lt (gs.take 4) 0 (fun x hx => h x (List.mem_of_mem_take hx))
    have g2 := gnum_lt (gs.drop 4) 0 (fun x hx => h x (List.mem_of_mem_drop hx))
    rw [show (gs.take 4).length = 4 by rw [List.length_take]; omega] at g1
    rw [show (gs.drop 4).length = 4 by rw [List.length_drop]; omega] at g2
    exact ⟨by simpa using g1, by simpa using g2⟩
  · cases e
theorem rsix_lt {l : List UInt8} {p : Nat × Nat} (e : rsix l = some p) : p.1 < 18446744073709551616 ∧ p.2 < 18446744073709551616 := by
  unfold rsix at e
  split at e
  · cases hr : rgroups true l with
    | none => rw [hr] at e; cases e
    | some gs => rw [hr] at e; exact joinG_lt (rgroups_lt hr).1 e
  · cases hr : rgroups false (Lib.cut l [58, 58]).1 with
    | none => rw [hr] at e; cases e
    | some a =>
      rw [hr] at e
      cases hq : rgroups true (Lib.cut l [58, 58]).2.1 with
      | none => rw [hq] at e; cases e
      | some b =>
        rw [hq] at e
        simp only [Option.bind_some] at e
        split at e
        · refine joinG_lt ?_ e
          intro x hx
          rcases List.mem_append.1 hx with hx | hx
          · rcases List.mem_append.1 hx with hx | hx
            · exact (rgroups_lt hr).1 x hx
            · have := List.eq_of_mem_replicate hx; omega
          · exact (rgroups_lt hq).1 x hx
        · cases e
/-- Whatever is parsed is an address. -/
theorem rparse_ok {l : List UInt8} {v : Bool} {h lo : Nat} (e : rparse l = some (v, h, lo)) : chk v (h : Int) (lo : Int) = 0 ∧ h < 18446744073709551616 ∧ lo < 18446744073709551616 := by
  unfold rparse at e
  split at e
  · cases e
  · split at e
    · cases hr : rsix l with
      | none => rw [hr] at e; cases e
      | some p =>
        rw [hr] at e
        have := rsix_lt hr
        simp only [Option.map_some, Option.some.injEq, Prod.mk.injEq] at e
        obtain ⟨rfl, rfl, rfl⟩ := e
        exact ⟨by simp [chk], this⟩
    · cases hr : rfour l with
      | none => rw [hr] at e; cases e
      | some n =>
        rw [hr] at e
        have := rfour_lt hr
        simp only [Option.map_some, Option.some.injEq, Prod.mk.injEq] at e
        obtain ⟨rfl, rfl, rfl⟩ := e
        refine ⟨?_, by omega, by omega⟩
        unfold chk
        rw [if_neg]
        simp
        omega
end Go.Proofs.YtghbonlignmdoaaGreatDoor
