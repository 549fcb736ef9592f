/- What the card leans on: StE, StF, StG. -/
import Derived.Test.YtjainfehlbfiaaaGreatQ15
import Derived.Test.YtjainfehlbfiaaaGreatQ03
set_option linter.unusedVariables false
set_option linter.unusedSimpArgs false
namespace Go.Proofs.YtjainfehlbfiaaaGreat
open Go.RowKit

/-- What is wrong with a state. -/
def stateE (P : List Pl) (l : List Ls) (now : Int) : Int := if poolsE P = 0 then (if rngE now 0 9999 = 0 then leasesE P l now else rngE now 0 9999) else poolsE P
theorem poolsE_ok {P : List Pl} (h : poolsE P = 0) : P.length ≤ 3 ∧ badP P = 0 ∧ upP P = 0 := by
  unfold poolsE at h
  by_cases h1 : 3 < P.length
  · rw [if_pos h1] at h; exact absurd h (by decide)
  · rw [if_neg h1] at h
    by_cases h2 : badP P = 0
    · rw [if_pos h2] at h; exact ⟨by omega, h2, h⟩
    · rw [if_neg h2] at h; exact absurd h h2
set_option maxHeartbeats 16000000 in
set_option maxRecDepth 100000 in
theorem scheck_any (aP aL : Option Addr) (cP cL : Nat) (P : List Pl) (l : List Ls) (now : Int) (w : World) (hcL : l.length ≤ cL) (hp : Lies plE w aP P) (hk : KeptAt w P) (hs : Lies lsE w aL l) :
    Calls Tryz.prog 39 #[.agg #[.slice aP P.length cP, .slice aL l.length cL, .int .i64 now]] w fun e w' => e = .returned (.int .i64 (stateE P l now)) ∧ Below w.heap.size w w' := by
  have H1 := Lib.hid (lookPools_any aP cP P (w.alloc (.cells #[.slice aP P.length cP, .slice aL l.length cL, .int .i64 now] 55)) (hp.below (bal (Below.refl _ _) _)) (hk.below (bal (Below.refl _ _) _)))
  have H2 : Hid (∀ W : World, Calls Tryz.prog 37 #[.int .i64 now, .int .i64 0, .int .i64 9999] W fun e w' => e = .returned (.int .i64 (rngE now 0 9999)) ∧ w' = W) := fun W => sranged_any now 0 9999 W
  have H3 : Hid (poolsE P = 0 → ∀ W : World, Below w.heap.size w W → Calls Tryz.prog 47 #[.agg #[.slice aP P.length cP, .slice aL l.length cL, .int .i64 now]] W fun e w' => e = .returned (.int .i64 (leasesE P l now)) ∧ Below W.heap.size W w') := fun h0 W hW => lookLeases_any aP aL cP cL P l now W (poolsE_ok h0).1 hcL (fun y hy => poolE_chk (badP_all (poolsE_ok h0).2.1 y hy)) (hp.below hW) (hs.below hW)
  have HB0 := Lib.hid (bal (Below.refl w.heap.size w) (.cells #[.slice aP P.length cP, .slice aL l.length cL, .int .i64 now] 55))
  have HS0 := Lib.hid (Blk.new w [.slice aP P.length cP, .slice aL l.length cL, .int .i64 now] 55)
  unfold stateE
  generalize poolsE P = r1 at *
  generalize rngE now 0 9999 = r2 at *
  generalize leasesE P l now = r3 at *
  generalize P.length = PN at *
  generalize l.length = N at *
  clear hp hk hs hcL
  by_cases h1 : r1 = 0
  · subst h1
    rw [if_pos rfl]
    replace H3 := Lib.hid (H3.out rfl)
    by_cases h2 : r2 = 0
    · subst h2
      rw [if_pos rfl]
      go_enter Tryz.func39, Tryz.ntmps39
      go_wp2_with fail
      refine H1.out.mono ?_
      rintro e w1 ⟨rfl, hb1⟩
      have HB1 := Lib.hid (btr HB0.out hb1)
      obtain ⟨⟨s0, s1, s2⟩, -⟩ := (HS0.out.below hb1).three
      clear hb1 HB0 HS0 H1
      go_wp2_with fail
      refine (H2.out _).mono ?_
      rintro e w2 ⟨rfl, rfl⟩
      go_wp2_with fail
      refine (H3.out _ HB1.out).mono ?_
      rintro e w3 ⟨rfl, hb3⟩
      have HB3 := Lib.hid (btr HB1.out hb3)
      clear hb3 HB1
      go_wp2
      go_ret
      exact ⟨rfl, HB3.out⟩
    · rw [if_neg h2]
      have hI : (r2 != 0) = true := by rw [bne_iff_ne]; exact h2
      clear h2 H3
      go_enter Tryz.func39, Tryz.ntmps39
      go_wp2_with fail
      refine H1.out.mono ?_
      rintro e w1 ⟨rfl, hb1⟩
      have HB1 := Lib.hid (btr HB0.out hb1)
      obtain ⟨⟨s0, s1, s2⟩, -⟩ := (HS0.out.below hb1).three
      clear hb1 HB0 HS0 H1
      go_wp2_with fail
      refine (H2.out _).mono ?_
      rintro e w2 ⟨rfl, rfl⟩
      go_wp2
      go_ret
      exact ⟨rfl, HB1.out⟩
  · rw [if_neg h1]
    have hI : (r1 != 0) = true := by rw [bne_iff_ne]; exact h1
    clear h1 H2 H3
    go_enter Tryz.func39, Tryz.ntmps39
    go_wp2_with fail
    refine H1.out.mono ?_
    rintro e w1 ⟨rfl, hb1⟩
    have HB1 := Lib.hid (btr HB0.out hb1)
    clear hb1 HB0 HS0 H1
    go_wp2
    go_ret
    exact ⟨rfl, HB1.out⟩
end Go.Proofs.YtjainfehlbfiaaaGreat

namespace Go.Proofs.YtjainfehlbfiaaaGreat
open Go.RowKit

/-- Pools without where they lie. -/
def absP (l : List Pl) : List (Pf × List Ad) := l.map fun x => (x.p, x.kept)
theorem absP_len {l l' : List Pl} (h : absP l = absP l') : l.length = l'.length := by
  have := congrArg List.length h
  simpa [absP] using this
def Pl.v (x : Pl) : Value := .slice x.s x.kept.length x.c
theorem own_cell {w : World} {B t k n : Nat} {v : Value} {R : List Value} (h : w.ownsRow B t k v n R) {b : Nat} (j : Nat) (hb : v.ownBlock ≠ some b) (u : Value) : (w.setCell ⟨b, j, none⟩ u).ownsRow B t k v n R :=
  h.kept (row := some b) ⟨rfl, rfl, rfl, by simp, fun k hk hn => heap_setCell_other w ⟨b, j, none⟩ k u (fun e => hn (by rw [e]))⟩ (.inr hb)
/-- All blocks that are not the doer's box nor a row's are as they were. -/
def Fr (w w' : World) (db : Nat) (vP vL : Value) (P : List Pl) : Prop := ∀ b, b < w.heap.size → b ≠ db → vP.ownBlock ≠ some b → vL.ownBlock ≠ some b → (∀ x ∈ P, x.v.ownBlock ≠ some b) → w'.heap[b]? = w.heap[b]?
theorem Fr.below {w w' : World} {db : Nat} {vP vL : Value} {P : List Pl} (h : Below w.heap.size w w') : Fr w w' db vP vL P := fun b hb _ _ _ _ => h.block b hb
theorem Fr.grown {w W w' : World} {db : Nat} {vP vL : Value} {P : List Pl} {ob : Option Nat} (hW : Below w.heap.size w W) (hgr : W.grownBy w' ob) (ho : ob = vP.ownBlock ∨ ob = vL.ownBlock ∨ ∃ x ∈ P, ob = x.v.ownBlock) : Fr w w' db vP vL P := fun b hb _ h2 h3 h4 =>
  (hgr.block b (Nat.lt_of_lt_of_le hb hW.size) (fun e => by
    rcases ho with r | r | ⟨x, hx, r⟩
    · rw [r] at e; exact h2 e.symm
    · rw [r] at e; exact h3 e.symm
    · rw [r] at e; exact h4 x hx e.symm)).trans (hW.block b hb)
theorem Fr.set {w w' : World} {db : Nat} {vP vL : Value} {P : List Pl} (h : Fr w w' db vP vL P) {c : Nat} (hc : c = db ∨ w.heap.size ≤ c ∨ vP.ownBlock = some c) (j : Nat) (u : Value) : Fr w (w'.setCell ⟨c, j, none⟩ u) db vP vL P := fun b hb h1 h2 h3 h4 =>
  (heap_setCell_other w' ⟨c, j, none⟩ b u (by
    show b ≠ c
    rintro rfl
    rcases hc with r | r | r
    · exact h1 r
    · omega
    · exact h2 r)).trans (h b hb h1 h2 h3 h4)
theorem rowOf_setK : ∀ (l : List Pl) (j : Nat) (h : j < l.length) (x : Pl), x.p = l[j].p → (rowOf plE l).set (j * 5 + 4) (.slice x.s x.kept.length x.c) = rowOf plE (l.set j x)
  | y :: r, 0, h, x, e => by
    have e' : x.p = y.p := e
    simp [rowOf, plE, e']
  | y :: r, j + 1, h, x, e => by
    have ih := rowOf_setK r j (by simpa using h) x e
    rw [List.set_cons_succ, rowOf, rowOf, show (j + 1) * 5 + 4 = 5 + (j * 5 + 4) by omega]
    rw [List.set_append_right _ _ (by rw [plE.len y]; show 5 ≤ _; omega), plE.len y]
    rw [show 5 + (j * 5 + 4) - plE.k = j * 5 + 4 by show 5 + (j * 5 + 4) - 5 = _; omega, ih]
theorem OwnAt.setK {w : World} {B t g c : Nat} {l : List Pl} (h : OwnAt plE w B t g c l) (j : Nat) (hj : j < l.length) (x : Pl) (e : x.p = l[j].p) : OwnAt plE (w.setCell ⟨g, j * 5 + 4, none⟩ (.slice x.s x.kept.length x.c)) B t g c (l.set j x) := by
  obtain ⟨rest, hr, hlen⟩ := h.row
  refine ⟨h.base, by simpa using h.le, h.max, rest, ?_, ?_⟩
  · have h1 := heap_setCell_same w g (j * 5 + 4) _ _ (.slice x.s x.kept.length x.c) hr
    rw [h1]
    have hlt : j * 5 + 4 < (rowOf plE l).length := by rw [rowOf_len]; show _ < l.length * 5; omega
    have h2 : (rowOf plE l ++ rest).set (j * 5 + 4) (.slice x.s x.kept.length x.c) = rowOf plE (l.set j x) ++ rest := by rw [List.set_append_left _ _ hlt, rowOf_setK l j hj x e]
    rw [← h2]
    simp
  · rw [← hlen, List.length_append, List.length_append, rowOf_len, rowOf_len, List.length_set]
theorem OwnAt.free {α : Type} {E : Enc α} {w : World} {B t g c : Nat} {l : List α} (h : OwnAt E w B t g c l) (j : Nat) : w.frozen? ⟨g, j, none⟩ = false := by
  obtain ⟨rest, hr, _⟩ := h.row
  simp [World.frozen?, hr]
theorem OwnAt.off {α : Type} {E : Enc α} {w : World} {B t g c : Nat} {l : List α} (h : OwnAt E w B t g c l) {b : Nat} (hb : g ≠ b) (j : Nat) (u : Value) : OwnAt E (w.setCell ⟨b, j, none⟩ u) B t g c l := by
  obtain ⟨rest, hr, hlen⟩ := h.row
  exact ⟨h.base, h.le, h.max, rest, (heap_setCell_other w ⟨b, j, none⟩ g u hb).trans hr, hlen⟩
/-- Each one's own list is the call's own, all of them apart from each other and from a block. -/
structure KeptOwn (w : World) (B g : Nat) (Q : List Pl) : Prop where
  own : ∀ x ∈ Q, w.ownsRow B 29 adE.k x.v x.kept.length (rowOf adE x.kept)
  far : ∀ x ∈ Q, x.v.ownBlock ≠ some g
  two : ∀ i j (hi : i < Q.length) (hj : j < Q.length), i ≠ j → ∀ b, Q[i].v.ownBlock = some b → Q[j].v.ownBlock ≠ some b
theorem KeptOwn.nil (w : World) (B g : Nat) : KeptOwn w B g [] := ⟨fun x h => (by cases h), fun x h => (by cases h), fun i j hi => absurd hi (Nat.not_lt_zero _)⟩
theorem KeptOwn.kept {w : World} {B g : Nat} {Q : List Pl} (h : KeptOwn w B g Q) : KeptAt w Q := fun x hx => by
  have ho := h.own x hx
  unfold Pl.v at ho
  rcases own_form ho with ⟨e, e2⟩ | ⟨g', c', e, ho'⟩
  · injection e with e1 e2' e3
    exact ⟨by rw [e2]; exact Lies.nil _ _ _, by rw [e2]; exact Nat.zero_le _, fun _ => e3⟩
  · injection e with e1 e2' e3
    subst e3
    exact ⟨by rw [e1]; exact ho'.lies, ho'.le, fun e => by rw [e1] at e; exact absurd e (by simp)⟩
theorem KeptOwn.keep {w w' : World} {B g : Nat} {Q : List Pl} (h : KeptOwn w B g Q) (hb : Below w.heap.size w w') : KeptOwn w' B g Q := ⟨fun x hx => own_keep (h.own x hx) hb, h.far, h.two⟩
theorem KeptOwn.st {w : World} {B g : Nat} {Q : List Pl} (h : KeptOwn w B g Q) {b : Nat} (hb : b < B) (j : Nat) (u : Value) : KeptOwn (w.setCell ⟨b, j, none⟩ u) B g Q := ⟨fun x hx => own_st (h.own x hx) hb u, h.far, h.two⟩
theorem KeptOwn.snoc {w w1 : World} {B g : Nat} {Q : List Pl} (h : KeptOwn w B g Q) (hb : Below w.heap.size w w1) (x : Pl) (hx : w1.ownsRow w.heap.size 29 adE.k x.v x.kept.length (rowOf adE x.kept)) (hB : B ≤ w.heap.size) (hg : g < w.heap.size) (j : Nat) (u : Value) : KeptOwn (w1.setCell ⟨g, j, none⟩ u) B g (Q ++ [x]) := by
  have hxg : x.v.ownBlock ≠ some g := fun e => by have := (hx.lt g e).1; omega
  refine ⟨fun y hy => ?_, fun y hy => ?_, fun i k hi hk hik b hb1 => ?_⟩
  · rcases List.mem_append.1 hy with hy | hy
    · exact own_cell (own_keep (h.own y hy) hb) j (h.far y hy) u
    · obtain rfl := List.mem_singleton.1 hy
      exact own_cell (row_base hx hB) j hxg u
  · rcases List.mem_append.1 hy with hy | hy
    · exact h.far y hy
    · obtain rfl := List.mem_singleton.1 hy
      exact hxg
  · have hl : (Q ++ [x]).length = Q.length + 1 := by simp
    rw [hl] at hi hk
    by_cases h1 : i < Q.length
    · rw [List.getElem_append_left h1] at hb1
      by_cases h2 : k < Q.length
      · rw [List.getElem_append_left h2]
        exact h.two i k h1 h2 hik b hb1
      · rw [List.getElem_append_right (by omega)]
        have : k - Q.length = 0 := by omega
        simp only [this, List.getElem_cons_zero]
        intro e
        have a1 := ((h.own _ (List.getElem_mem h1)).lt b hb1).2
        have a2 := (hx.lt b e).1
        omega
    · rw [List.getElem_append_right (by omega)] at hb1
      have e0 : i - Q.length = 0 := by omega
      simp only [e0, List.getElem_cons_zero] at hb1
      rw [List.getElem_append_left (show k < Q.length by omega)]
      intro e
      have a1 := ((h.own _ (List.getElem_mem (show k < Q.length by omega))).lt b e).2
      have a2 := (hx.lt b hb1).1
      omega
/-- The pools' row, the first ones' own lists copied. -/
structure Half (w : World) (B g c k : Nat) (P Q : List Pl) : Prop where
  len : Q.length = k
  abs : absP Q = absP (P.take k)
  row : OwnAt plE w B 87 g c (Q ++ P.drop k)
  kept : KeptOwn w B g Q
theorem Half.keep {w w' : World} {B g c k : Nat} {P Q : List Pl} (h : Half w B g c k P Q) (hb : Below w.heap.size w w') : Half w' B g c k P Q := ⟨h.len, h.abs, h.row.keep hb, h.kept.keep hb⟩
theorem Half.at {w : World} {B g c k : Nat} {P Q : List Pl} (h : Half w B g c k P Q) (hk : k < P.length) : ∃ hj : k < (Q ++ P.drop k).length, (Q ++ P.drop k)[k] = P[k] := by
  have hl := h.len
  refine ⟨by rw [List.length_append, List.length_drop]; omega, ?_⟩
  rw [List.getElem_append_right (by omega)]
  simp [hl]
theorem Half.step {w w1 : World} {B g c k : Nat} {P Q : List Pl} (h : Half w B g c k P Q) (hk : k < P.length) (hb : Below w.heap.size w w1) (a' : Option Addr) (c' : Nat)
    (ho : w1.ownsRow w.heap.size 29 adE.k (.slice a' P[k].kept.length c') P[k].kept.length (rowOf adE P[k].kept)) (hB : B ≤ w.heap.size) :
    Half (w1.setCell ⟨g, k * 5 + 4, none⟩ (.slice a' P[k].kept.length c')) B g c (k + 1) P (Q ++ [⟨P[k].p, P[k].kept, a', c', P[k].pok⟩]) := by
  obtain ⟨hj, hat⟩ := h.at hk
  have hl := h.len
  have hx : (⟨P[k].p, P[k].kept, a', c', P[k].pok⟩ : Pl).p = (Q ++ P.drop k)[k].p := by rw [hat]
  have h1 := (h.row.keep hb).setK k hj _ hx
  have h2 : (Q ++ P.drop k).set k ⟨P[k].p, P[k].kept, a', c', P[k].pok⟩ = (Q ++ [⟨P[k].p, P[k].kept, a', c', P[k].pok⟩]) ++ P.drop (k + 1) := by
    rw [List.set_append_right _ _ (by omega), hl, Nat.sub_self, List.drop_eq_getElem_cons hk, List.set_cons_zero, List.append_assoc]
    rfl
  rw [h2] at h1
  refine ⟨by rw [List.length_append, hl]; rfl, ?_, h1, h.kept.snoc hb ⟨P[k].p, P[k].kept, a', c', P[k].pok⟩ ho hB h.row.lt _ _⟩
  rw [List.take_succ_eq_append_getElem hk]
  have := h.abs
  unfold absP at this ⊢
  rw [List.map_append, List.map_append, this]
  rfl
theorem Half.done {w : World} {B g c k : Nat} {P Q : List Pl} (h : Half w B g c k P Q) (hk : k = P.length) : absP Q = absP P ∧ OwnAt plE w B 87 g c Q ∧ KeptOwn w B g Q := by
  have h1 := h.abs
  have h2 := h.row
  subst hk
  rw [List.take_length] at h1
  rw [List.drop_eq_nil_of_le (Nat.le_refl _), List.append_nil] at h2
  exact ⟨h1, h2, h.kept⟩
/-- A state whose lists are the call's own, all of them apart. -/
structure OwnS (w : World) (B : Nat) (vP vL : Value) (P : List Pl) (l : List Ls) : Prop where
  pools : w.ownsRow B 87 plE.k vP P.length (rowOf plE P)
  leases : w.ownsRow B 106 lsE.k vL l.length (rowOf lsE l)
  kept : ∀ x ∈ P, w.ownsRow B 29 adE.k x.v x.kept.length (rowOf adE x.kept)
  pl : ∀ b, vP.ownBlock = some b → vL.ownBlock ≠ some b
  pk : ∀ x ∈ P, ∀ b, x.v.ownBlock = some b → vP.ownBlock ≠ some b ∧ vL.ownBlock ≠ some b
  kk : ∀ i j (hi : i < P.length) (hj : j < P.length), i ≠ j → ∀ b, P[i].v.ownBlock = some b → P[j].v.ownBlock ≠ some b
theorem OwnS.st {w : World} {B : Nat} {vP vL : Value} {P : List Pl} {l : List Ls} (h : OwnS w B vP vL P l) {b : Nat} (hb : b < B) (j : Nat) (u : Value) : OwnS (w.setCell ⟨b, j, none⟩ u) B vP vL P l := ⟨own_st h.pools hb u, own_st h.leases hb u, fun x hx => own_st (h.kept x hx) hb u, h.pl, h.pk, h.kk⟩
theorem OwnS.keep {w w' : World} {B : Nat} {vP vL : Value} {P : List Pl} {l : List Ls} (h : OwnS w B vP vL P l) (hb : Below w.heap.size w w') : OwnS w' B vP vL P l := ⟨own_keep h.pools hb, own_keep h.leases hb, fun x hx => own_keep (h.kept x hx) hb, h.pl, h.pk, h.kk⟩
theorem OwnS.base {w : World} {B B' : Nat} {vP vL : Value} {P : List Pl} {l : List Ls} (h : OwnS w B vP vL P l) (hB : B' ≤ B) : OwnS w B' vP vL P l := ⟨row_base h.pools hB, row_base h.leases hB, fun x hx => row_base (h.kept x hx) hB, h.pl, h.pk, h.kk⟩
theorem ownS_some {w w1 : World} {B g c : Nat} {P : List Pl} {l : List Ls} {vL : Value} (h1 : OwnAt plE w B 87 g c P) (h2 : KeptOwn w B g P) (hb : Below w.heap.size w w1) (h3 : w1.ownsRow w.heap.size 106 lsE.k vL l.length (rowOf lsE l)) (hB : B ≤ w.heap.size) : OwnS w1 B (.slice (some ⟨g, 0, none⟩) P.length c) vL P l := by
  refine ⟨(h1.keep hb).own, row_base h3 hB, fun x hx => own_keep (h2.own x hx) hb, fun b e1 e2 => ?_, fun x hx b e => ⟨fun e1 => ?_, fun e2 => ?_⟩, h2.two⟩
  · have := (h1.own.lt b e1).2
    have := (h3.lt b e2).1
    omega
  · have : b = g := by simpa [Value.ownBlock] using e1.symm
    exact h2.far x hx (by rw [← this]; exact e)
  · have := ((h2.own x hx).lt b e).2
    have := (h3.lt b e2).1
    omega
theorem ownS_none {w1 : World} {B : Nat} {l : List Ls} {vL : Value} (h3 : w1.ownsRow B 106 lsE.k vL l.length (rowOf lsE l)) : OwnS w1 B (.slice none 0 0) vL [] l :=
  ⟨World.ownsRow_nil _ _ _ _, h3, fun x hx => (by cases hx), fun b e => (by simp [Value.ownBlock] at e), fun x hx => (by cases hx), fun i j hi => absurd hi (Nat.not_lt_zero _)⟩
end Go.Proofs.YtjainfehlbfiaaaGreat

namespace Go.Proofs.YtjainfehlbfiaaaGreat
open Go.RowKit

set_option maxHeartbeats 16000000 in
set_option maxRecDepth 100000 in
theorem own_any (aP aL : Option Addr) (cP cL : Nat) (P : List Pl) (l : List Ls) (now : Int) (w : World) (hP3 : P.length ≤ 3) (hkl : ∀ x ∈ P, x.kept.length ≤ 6) (hl : l.length ≤ 20) (hp : Lies plE w aP P) (hk : KeptAt w P) (hs : Lies lsE w aL l) :
    Calls Tryz.prog 40 #[.agg #[.slice aP P.length cP, .slice aL l.length cL, .int .i64 now]] w fun e w' => ∃ (vP vL : Value) (Q : List Pl), e = .returned (.agg #[vP, vL, .int .i64 now]) ∧ absP Q = absP P ∧ OwnS w' w.heap.size vP vL Q l ∧ Below w.heap.size w w' := by
  have hnoP : ∀ x ∈ P, x.kept.length ≤ 1000 := fun x hx => Nat.le_trans (hkl x hx) (by decide)
  obtain ⟨W1, hW1⟩ : ∃ W1, W1 = (w.alloc (.cells #[.slice aP P.length cP, .slice aL l.length cL, .int .i64 now] 55)).alloc (.cells #[.slice none 0 0, .slice none 0 0, .int .i64 0] 55) := ⟨_, rfl⟩
  have hb1 : Below w.heap.size w W1 := by rw [hW1]; exact bal (bal (Below.refl w.heap.size w) _) _
  have hz1 : W1.heap.size = w.heap.size + 1 + 1 := by rw [hW1]; simp
  have hS : Blk W1 w.heap.size 55 [.slice aP P.length cP, .slice aL l.length cL, .int .i64 now] := by rw [hW1]; exact (Blk.new w _ _).below (bal (Below.refl _ _) _)
  have hZ : Blk W1 (w.heap.size + 1) 55 [.slice none 0 0, .slice none 0 0, .int .i64 0] := by
    rw [hW1]
    have := Blk.new (w.alloc (.cells #[.slice aP P.length cP, .slice aL l.length cL, .int .i64 now] 55)) [.slice none 0 0, .slice none 0 0, .int .i64 0] 55
    rw [show (w.alloc (.cells #[.slice aP P.length cP, .slice aL l.length cL, .int .i64 now] 55)).heap.size = w.heap.size + 1 by simp] at this
    exact this
  have HC1 := Lib.hid (clonePl_any aP cP P W1 (by omega) (hp.below hb1))
  have HCL : Hid (∀ W : World, Below w.heap.size w W → Calls Tryz.prog 50 #[.slice aL l.length cL] W fun e w' => ∃ v', e = .returned v' ∧ w'.ownsRow W.heap.size 106 lsE.k v' l.length (rowOf lsE l) ∧ Below W.heap.size W w') := fun W hW => cloneL_any aL cL l W hl (hs.below hW)
  have HK := Lib.hid hk
  have HS1 := Lib.hid hS
  have HZ1 := Lib.hid hZ
  have HB1 := Lib.hid hb1
  have Hz := Lib.hid hz1
  have HPl := Lib.hid hkl
  obtain ⟨⟨s0, s1, s2⟩, s3, s4, s5⟩ := hS.three
  rw [hW1] at HC1 HS1 HZ1 HB1 Hz s0 s1 s2 s3 s4 s5
  clear hb1 hS hZ hz1 hW1 W1 hp hs hk hnoP hkl
  obtain ⟨PN, hPN⟩ : ∃ n, n = P.length := ⟨_, rfl⟩
  rw [← hPN] at HC1 HS1 HZ1 HB1 Hz s0 s1 s2 s3 s4 s5 hP3 ⊢
  have HPN : Hid (PN = P.length) := hPN
  clear hPN
  have HLr := Lib.hid (rfl : rowOf lsE l = rowOf lsE l)
  go_enter Tryz.func40, Tryz.ntmps40
  go_wp2_with fail
  refine HC1.out.mono ?_
  rintro e w2 ⟨v2, rfl, ho2, hb2⟩
  have HB2 := Lib.hid (btr HB1.out hb2)
  have HS2 := Lib.hid (HS1.out.below hb2)
  have HZ2 := Lib.hid (HZ1.out.below hb2)
  clear hb2 s0 s1 s2 s3 s4 s5 HC1 HB1 HS1 HZ1
  rw [Hz.out] at ho2
  clear Hz
  rw [HPN.out] at ho2
  rcases own_form ho2 with ⟨rfl, hnil⟩ | ⟨g, c5, rfl, hat⟩
  · obtain rfl : P = [] := hnil
    obtain rfl : PN = 0 := HPN.out
    have HS2' : Hid (Blk (w2.setCell ⟨w.heap.size, 0, none⟩ (.slice none 0 0)) w.heap.size 55 [.slice none 0 0, .slice aL l.length cL, .int .i64 now]) := HS2.out.set 0 _
    have HZ2' : Hid (Blk (w2.setCell ⟨w.heap.size, 0, none⟩ (.slice none 0 0)) (w.heap.size + 1) 55 [.slice none 0 0, .slice none 0 0, .int .i64 0]) := HZ2.out.other (by omega) _
    have HB2' : Hid (Below w.heap.size w (w2.setCell ⟨w.heap.size, 0, none⟩ (.slice none 0 0))) := bse HB2.out (p := ⟨w.heap.size, 0, none⟩) (Nat.le_refl _) _
    obtain ⟨⟨s0, s1, s2⟩, s3, s4, s5⟩ := HS2.out.three
    clear ho2 HS2 HZ2 HB2
    go_wp2_with fail
    go_loopw [12] (fun vi wr => vi = .int .i64 0 ∧ Hid (Blk wr w.heap.size 55 [.slice none 0 0, .slice aL l.length cL, .int .i64 now]) ∧ Hid (Blk wr (w.heap.size + 1) 55 [.slice none 0 0, .slice none 0 0, .int .i64 0]) ∧ Hid (Below w.heap.size w wr))
      (fun _ _ => 0)
    case atStart => exact ⟨rfl, HS2'.out, HZ2'.out, HB2'.out⟩
    case round =>
      clear HS2' HZ2' HB2' s0 s1 s2 s3 s4 s5
      obtain ⟨rfl, hsb, hzb, hb⟩ := hrel
      have hwB : w.heap.size + 1 + 1 ≤ wr.heap.size := hzb.out.lt
      obtain ⟨⟨s0, s1, s2⟩, s3, s4, s5⟩ := hsb.out.three
      go_wp2_with fail
      refine (HCL.out _ hb.out).mono ?_
      rintro e w6 ⟨v6, rfl, ho6, hb6⟩
      obtain ⟨a6, c6, rfl⟩ := own_slice ho6
      have HS6 := Lib.hid (hsb.out.below hb6)
      have HZ6 := Lib.hid (hzb.out.below hb6)
      have HB6 := Lib.hid (btr hb.out hb6)
      have HF := Lib.hid (ownS_none (B := w.heap.size + 1 + 1) (row_base ho6 hwB))
      clear hb6 ho6 hsb hzb hb s0 s1 s2 s3 s4 s5
      obtain ⟨⟨s0, s1, s2⟩, s3, s4, s5⟩ := HS6.out.three
      obtain ⟨⟨z0, z1, z2⟩, z3, z4, z5⟩ := HZ6.out.three
      generalize l.length = LN at *
      go_wp2_with fail
      refine bodyPost_ret (v := .agg #[.slice none 0 0, .slice a6 LN c6, .int .i64 now]) ?_ rfl ⟨_, _, [], rfl, rfl, ?_, ?_⟩
      · simp [results, Tryz.results40, go_sem, s0, s1, s2, z0, z1, z2]
      · exact ((((HF.out.st (b := w.heap.size) (by omega) 1 _).st (b := w.heap.size + 1) (by omega) 0 _).st (b := w.heap.size + 1) (by omega) 1 _).st (b := w.heap.size + 1) (by omega) 2 _).base (by omega)
      · (repeat' (first | exact HB6.out | with_reducible refine bse ?_ (by first | (simp; done) | (simp; omega) | (show _ ≤ _; omega)) _))
  · rw [← HPN.out]
    have hgB := hat.base
    have HA2 : Hid (Half (w2.setCell ⟨w.heap.size, 0, none⟩ (.slice (some ⟨g, 0, none⟩) PN c5)) (w.heap.size + 1 + 1) g c5 0 P []) := ⟨rfl, rfl, by rw [List.drop_zero, List.nil_append]; exact hat.off (by omega) _ _, KeptOwn.nil _ _ _⟩
    have HS2' : Hid (Blk (w2.setCell ⟨w.heap.size, 0, none⟩ (.slice (some ⟨g, 0, none⟩) PN c5)) w.heap.size 55 [.slice (some ⟨g, 0, none⟩) PN c5, .slice aL l.length cL, .int .i64 now]) := HS2.out.set 0 _
    have HZ2' : Hid (Blk (w2.setCell ⟨w.heap.size, 0, none⟩ (.slice (some ⟨g, 0, none⟩) PN c5)) (w.heap.size + 1) 55 [.slice none 0 0, .slice none 0 0, .int .i64 0]) := HZ2.out.other (by omega) _
    have HB2' : Hid (Below w.heap.size w (w2.setCell ⟨w.heap.size, 0, none⟩ (.slice (some ⟨g, 0, none⟩) PN c5))) := bse HB2.out (p := ⟨w.heap.size, 0, none⟩) (Nat.le_refl _) _
    have hcP : PN ≤ c5 := by rw [HPN.out]; exact hat.le
    obtain ⟨⟨s0, s1, s2⟩, s3, s4, s5⟩ := HS2.out.three
    clear ho2 hat HS2 HZ2 HB2
    go_wp2_with fail
    go_loopw [12] (fun vi wr => ∃ k : Nat, vi = .int .i64 k ∧ k ≤ PN ∧ Hid (∃ Q, Half wr (w.heap.size + 1 + 1) g c5 k P Q) ∧ Hid (Blk wr w.heap.size 55 [.slice (some ⟨g, 0, none⟩) PN c5, .slice aL l.length cL, .int .i64 now]) ∧ Hid (Blk wr (w.heap.size + 1) 55 [.slice none 0 0, .slice none 0 0, .int .i64 0]) ∧ Hid (Below w.heap.size w wr))
      (fun vi _ => PN - (intOf vi).toNat)
    case atStart => exact ⟨0, rfl, Nat.zero_le _, ⟨[], HA2.out⟩, HS2'.out, HZ2'.out, HB2'.out⟩
    case round =>
      clear HA2 HS2' HZ2' HB2' s0 s1 s2 s3 s4 s5
      obtain ⟨k, rfl, hk, hq, hsb, hzb, hb⟩ := hrel
      by_cases hkN : k < PN
      · obtain ⟨Q, hh⟩ := hq.out
        have HH := Lib.hid hh
        have hkP : k < P.length := by have := HPN.out; omega
        obtain ⟨hj, hat⟩ := hh.at hkP
        obtain ⟨g', o', hgo, hg', c0, c1, c2, c3, c4⟩ := hh.row.lies.pl k hj
        obtain ⟨rfl, rfl⟩ : g = g' ∧ 0 = o' := by simpa using hgo
        rw [hat] at c0 c1 c2 c3 c4
        rw [Nat.zero_add] at c0 c1 c2 c3 c4
        clear hgo hat hj hq hh
        have HO := Lib.hid (HK.out P[k] (List.getElem_mem hkP))
        have hx6 := HPl.out P[k] (List.getElem_mem hkP)
        have HCA : Hid (∀ W : World, Below w.heap.size w W → Calls Tryz.prog 49 #[.slice P[k].s P[k].kept.length P[k].c] W fun e w' => ∃ a' c', e = .returned (.slice a' P[k].kept.length c') ∧ w'.ownsRow W.heap.size 29 adE.k (.slice a' P[k].kept.length c') P[k].kept.length (rowOf adE P[k].kept) ∧ Below W.heap.size W w') := fun W hW => (cloneAd_any P[k].s P[k].c P[k].kept W (by omega) (HO.out.1.below hW)).mono fun e w' ⟨v, q1, q2, q3⟩ => by
          obtain ⟨a', c', rfl⟩ := own_slice q2
          exact ⟨a', c', q1, q2, q3⟩
        have HStep : Hid (∀ (w1 : World) (B1 : Nat) (a' : Option Addr) (c' : Nat), Below wr.heap.size wr w1 → wr.heap.size ≤ B1 → w1.ownsRow B1 29 adE.k (.slice a' P[k].kept.length c') P[k].kept.length (rowOf adE P[k].kept) → ∃ Q', Half (w1.setCell ⟨g, k * 5 + 4, none⟩ (.slice a' P[k].kept.length c')) (w.heap.size + 1 + 1) g c5 (k + 1) P Q') := fun w1 B1 a' c' q1 q2 q3 => ⟨_, HH.out.step hkP q1 a' c' (row_base q3 q2) (by have := hzb.out.lt; omega)⟩
        generalize rowOf adE P[k].kept = row at *
        generalize P[k].kept.length = xn at *
        generalize P[k].s = xs at *
        generalize P[k].c = xc at *
        generalize P[k].p.v = x0 at *
        generalize P[k].p.hi = x1 at *
        generalize P[k].p.lo = x2 at *
        generalize P[k].p.b = x3 at *
        have hkz : (k : Int) < (PN : Int) := by omega
        have hk0 : (0 : Int) ≤ (k : Int) := by omega
        have HBx := Lib.hid (bal hb.out (.cells #[.bool x0, .int .u64 x1, .int .u64 x2, .int .i64 x3, .slice xs xn xc] 87))
        have HKx : Hid (Below wr.heap.size wr (wr.alloc (.cells #[.bool x0, .int .u64 x1, .int .u64 x2, .int .i64 x3, .slice xs xn xc] 87))) := bal (Below.refl _ _) _
        have HSx := Lib.hid (hsb.out.below HKx.out)
        have HZx := Lib.hid (hzb.out.below HKx.out)
        have HXx : Hid (Blk (wr.alloc (.cells #[.bool x0, .int .u64 x1, .int .u64 x2, .int .i64 x3, .slice xs xn xc] 87)) wr.heap.size 87 [.bool x0, .int .u64 x1, .int .u64 x2, .int .i64 x3, .slice xs xn xc]) := Blk.new wr _ _
        have HGf := Lib.hid (HH.out.row.free (k * 5 + 4))
        clear HO hx6 hb hsb hzb HH
        obtain ⟨⟨s0, s1, s2⟩, -⟩ := HSx.out.three
        have y4 := HXx.out.cell 4 _ rfl
        have z4 : (wr.alloc (.cells #[.bool x0, .int .u64 x1, .int .u64 x2, .int .i64 x3, .slice xs xn xc] 87)).cell? ⟨g, k * 5 + 4, none⟩ = some (.slice xs xn xc) := by rw [(bcell HKx.out).1 _ _ hg']; exact c4
        have z5 : (wr.alloc (.cells #[.bool x0, .int .u64 x1, .int .u64 x2, .int .i64 x3, .slice xs xn xc] 87)).frozen? ⟨g, k * 5 + 4, none⟩ = false := by rw [(bcell HKx.out).2 _ _ hg']; exact HGf.out
        have hgx : g < (wr.alloc (.cells #[.bool x0, .int .u64 x1, .int .u64 x2, .int .i64 x3, .slice xs xn xc] 87)).heap.size := Nat.lt_of_lt_of_le hg' HKx.out.size
        go_wp2_with fail
        go_region_with
          (go_at_call 49; (refine (HCA.out _ HBx.out.drew).mono ?_); rintro e wq ⟨a', c', rfl, hoq, hbq⟩; have KQ := Lib.hid (btr HKx.out.drew hbq); have HSq := Lib.hid (HSx.out.below (btr (Below.refl _ _).drew hbq)); have HZq := Lib.hid (HZx.out.below (btr (Below.refl _ _).drew hbq)); have HBq := Lib.hid (btr HBx.out.drew hbq); have HOq := Lib.hid hoq; obtain ⟨⟨t0, t1, t2⟩, -⟩ := HSq.out.three; have t4 : wq.cell? ⟨g, k * 5 + 4, none⟩ = some (.slice xs xn xc) := (by rw [(bcell hbq).1 _ _ hgx]; exact z4); have t5 : wq.frozen? ⟨g, k * 5 + 4, none⟩ = false := (by rw [(bcell hbq).2 _ _ hgx]; exact z5); clear hoq hbq)
        all_goals
          have hQ : Hid (∃ Q', Half (wq.setCell ⟨g, k * 5 + 4, none⟩ (.slice a' xn c')) (w.heap.size + 1 + 1) g c5 (k + 1) P Q') := HStep.out wq _ a' c' KQ.out HKx.out.drew.size HOq.out
          have HS3 : Hid (Blk (wq.setCell ⟨g, k * 5 + 4, none⟩ (.slice a' xn c')) w.heap.size 55 [.slice (some ⟨g, 0, none⟩) PN c5, .slice aL l.length cL, .int .i64 now]) := HSq.out.other (by omega) _
          have HZ3 : Hid (Blk (wq.setCell ⟨g, k * 5 + 4, none⟩ (.slice a' xn c')) (w.heap.size + 1) 55 [.slice none 0 0, .slice none 0 0, .int .i64 0]) := HZq.out.other (by omega) _
          have HB3 : Hid (Below w.heap.size w (wq.setCell ⟨g, k * 5 + 4, none⟩ (.slice a' xn c'))) := bse HBq.out (p := ⟨g, k * 5 + 4, none⟩) (by show _ ≤ g; omega) _
          clear HBx HKx HSx HZx HXx HGf s0 s1 s2 y4 z4 z5 HStep HCA KQ HSq HZq HBq HOq t0 t1 t2 t4 t5
          go_wp2_with fail
          go_roundw
          case rel => exact ⟨k + 1, by go_num, by omega, hQ, HS3, HZ3, HB3⟩
          case measure => simp [intOf]; omega
      · obtain rfl : k = PN := by omega
        obtain ⟨Q, hh⟩ := hq.out
        obtain ⟨h1, h2, h3⟩ := hh.done HPN.out
        have hQ : Q.length = k := (absP_len h1).trans HPN.out.symm
        have HD : Hid (absP Q = absP P ∧ OwnAt plE wr (w.heap.size + 1 + 1) 87 g c5 Q ∧ KeptOwn wr (w.heap.size + 1 + 1) g Q) := ⟨h1, h2, h3⟩
        have HQ := Lib.hid hQ
        have hwB : w.heap.size + 1 + 1 ≤ wr.heap.size := hzb.out.lt
        obtain ⟨⟨s0, s1, s2⟩, s3, s4, s5⟩ := hsb.out.three
        have hkk : ¬ (k : Int) < (k : Int) := by omega
        clear hq hh h1 h2 h3 hQ hkN
        go_wp2_with fail
        refine (HCL.out _ hb.out).mono ?_
        rintro e w6 ⟨v6, rfl, ho6, hb6⟩
        obtain ⟨a6, c6, rfl⟩ := own_slice ho6
        have HS6 := Lib.hid (hsb.out.below hb6)
        have HZ6 := Lib.hid (hzb.out.below hb6)
        have HB6 := Lib.hid (btr hb.out hb6)
        have HF := Lib.hid (ownS_some HD.out.2.1 HD.out.2.2 hb6 ho6 hwB)
        clear hb6 ho6 hsb hzb hb s0 s1 s2 s3 s4 s5
        obtain ⟨⟨s0, s1, s2⟩, s3, s4, s5⟩ := HS6.out.three
        obtain ⟨⟨z0, z1, z2⟩, z3, z4, z5⟩ := HZ6.out.three
        have hlen : (Q.length : Nat) = k := HQ.out
        generalize l.length = LN at *
        go_wp2_with fail
        refine bodyPost_ret (v := .agg #[.slice (some ⟨g, 0, none⟩) k c5, .slice a6 LN c6, .int .i64 now]) ?_ rfl ⟨_, _, Q, rfl, HD.out.1, ?_, ?_⟩
        · simp [results, Tryz.results40, go_sem, s0, s1, s2, z0, z1, z2]
        · have hf := HF.out
          rw [hlen] at hf
          exact ((((hf.st (b := w.heap.size) (by omega) 1 _).st (b := w.heap.size + 1) (by omega) 0 _).st (b := w.heap.size + 1) (by omega) 1 _).st (b := w.heap.size + 1) (by omega) 2 _).base (by omega)
        · (repeat' (first | exact HB6.out | with_reducible refine bse ?_ (by first | (simp; done) | (simp; omega) | (show _ ≤ _; omega)) _))
end Go.Proofs.YtjainfehlbfiaaaGreat
