/- PickClear: the law. -/
import Derived.Test.YtpbankmbdacdaaaGreatDoorPnI
import Derived.Test.YtpbankmbdacdaaaGreatDoorPnL
import Derived.Test.YtpbankmbdacdaaaGreatDoorSmA
import Derived.Test.YtpbankmbdacdaaaGreatDoorOpenP
set_option linter.unusedVariables false
set_option linter.unusedSimpArgs false
namespace Go.Proofs.YtpbankmbdacdaaaGreatDoor
open Go.RowKit
theorem pc_some (p : Pf) (a : Option Addr) (c N : Nat) (us : List Pf) (bits : Int) (w : World) (hg : Good w) (x : Pf) (hN : N = us.length) (hl : N ≤ 12) (rp : p.R) (rx : x.R) (hu : ∀ u ∈ us, u.R) (hs : Sl w a us) (hnil : a = none → c = 0) (hC2 : Hid (N < 12 → ∀ (a : Option Addr) (c : Nat) (w' : World), Below w.heap.size w w' → Sl w' a (us ++ [x]) → Calls Tryz.prog 5 #[.agg #[.bool p.v, .int .u64 p.hi, .int .u64 p.lo, .int .i64 p.b], .slice a (N + 1) c, .int .i64 bits] w' fun e w'' => ∃ (r : Int) (y : Pf), e = .returned (.tuple #[.agg #[.bool y.v, .int .u64 y.hi, .int .u64 y.lo, .int .i64 y.b], .int .i64 r]) ∧ (r = 8 ∨ (r = 0 ∧ lessB x.v x.hi x.lo y.v y.hi y.lo = true ∧ lessE x.v x.hi x.lo y.v y.hi y.lo = 0 ∧ 0 ≤ y.hi ∧ 0 ≤ y.lo)) ∧ Below w'.heap.size w' w'')) (hbits : x.b = bits) (hin : p.has x = true) (haway : ∀ u ∈ us, u.has x = false ∧ x.has u = false) (C1 : Hid (∀ w' : World, Below w.heap.size w w' → Calls Tryz.prog 5 #[.agg #[.bool p.v, .int .u64 p.hi, .int .u64 p.lo, .int .i64 p.b], .slice a N c, .int .i64 bits] w' fun e w'' => e = .returned (.tuple #[.agg #[.bool x.v, .int .u64 x.hi, .int .u64 x.lo, .int .i64 x.b], .int .i64 0]) ∧ Below w'.heap.size w' w'')) :
    Calls Tryz.prog 3 #[.agg #[.bool p.v, .int .u64 p.hi, .int .u64 p.lo, .int .i64 p.b], .slice a N c, .int .i64 bits] w fun e w' => e = .returned (.bool true) ∧ Below w.heap.size w w' := by
  by_cases h : a = none
  · exact pc_someN p a c N us bits w hg (Lib.hid h) x hN hl rp rx hu hs hnil hC2 hbits hin haway C1
  · exact pc_someS p a c N us bits w hg (Lib.hid h) x hN hl rp rx hu hs hnil hC2 hbits hin haway C1
end Go.Proofs.YtpbankmbdacdaaaGreatDoor

namespace Go.Proofs.YtpbankmbdacdaaaGreatDoor
open Go.RowKit

theorem schk_R : ∀ {L : List Pf}, (∀ u ∈ L, u.R) → schk L = 0
  | [], _ => rfl
  | u :: L, h => by
    rw [schk_cons, if_pos (show u.chk = 0 from (right_iff _ _ _ _ (h u (by simp)).h0 (h u (by simp)).h1 (h u (by simp)).l0 (h u (by simp)).l1).2 (h u (by simp)))]
    exact schk_R fun x hx => h x (by simp [hx])

theorem pclear_law (p : Pf) (a : Option Addr) (c : Nat) (us : List Pf) (bits : Int) (w : World) (hg : Good w) (hp : p.Ok) (hok : ∀ u ∈ us, u.Ok) (hcap : us.length ≤ c) (hs : Sl w a us) (hnil : a = none → c = 0) :
    Calls Tryz.prog 3 #[.agg #[.bool p.v, .int .u64 p.hi, .int .u64 p.lo, .int .i64 p.b], .slice a us.length c, .int .i64 bits] w fun e w' => e = .returned (.bool true) ∧ Below w.heap.size w w' := by
  by_cases h0 : pkE p us = 0
  · obtain ⟨rp, hl, hu⟩ := pkE_ok hp hok h0
    by_cases hr : p.b ≤ bits ∧ bits ≤ wid p.v
    · by_cases hx : ∃ M x, IsRoom p us M ∧ wideP bits M = some x
      · obtain ⟨M, x, hM, hx⟩ := hx
        obtain ⟨rx, vx, bx, _⟩ := pick_nd rp hM hr.2 hx
        obtain ⟨hin, haway⟩ := pick_in rp hu hM hr.2 hx
        have hux : ∀ u ∈ us ++ [x], u.R := fun u h => (List.mem_append.1 h).elim (hu u) (fun h => by rw [List.mem_singleton] at h; subst h; exact rx)
        have c0 : p.chk = 0 := (right_iff _ _ _ _ hp.1 hp.2.1 hp.2.2.1 hp.2.2.2).2 rp
        refine pc_some p a c us.length us bits w hg x rfl hl rp rx hu hs hnil (fun h12 a' c' w' hb hs' => ?_) bx hin haway (fun w' hb => ?_)
        · have hE : pkE p (us ++ [x]) = 0 := by
            rw [pkE, if_pos c0, slkL, if_neg (by rw [List.length_append]; simp; omega)]
            exact schk_R hux
          have hN : us.length + 1 = (us ++ [x]).length := by simp
          rw [hN]
          refine (pFirst_ok p a' c' (us ++ [x]) bits w' hp (fun u h => pR_ok (hux u h)) hs' hE hr.1 hr.2).mono ?_
          rintro e w'' ⟨M2, hM2, hb2, ⟨_, he⟩ | ⟨y, hy, he⟩⟩
          · exact ⟨8, ⟨false, 0, 0, 0⟩, he, .inl rfl, hb2⟩
          · obtain ⟨ry, _, _, _⟩ := pick_nd rp hM2 hr.2 hy
            obtain ⟨b1, b2⟩ := pick_behind rp hM hr.2 hx hM2 hy
            exact ⟨0, y, he, .inr ⟨rfl, b1, b2, ry.h0, ry.l0⟩, hb2⟩
        · refine (pFirst_ok p a c us bits w' hp hok (hs.below hb) h0 hr.1 hr.2).mono ?_
          rintro e w'' ⟨M2, hM2, hb2, hy⟩
          have := hM2.uniq hM
          subst this
          rw [hx] at hy
          rcases hy with ⟨k, _⟩ | ⟨y, k, he⟩
          · exact absurd k (by simp)
          · injection k with k; subst k; exact ⟨he, hb2⟩
      · refine pc_err p a c us.length us bits w hg 8 (by decide) (fun w' hb => ?_)
        refine (pFirst_ok p a c us bits w' hp hok (hs.below hb) h0 hr.1 hr.2).mono ?_
        rintro e w'' ⟨M2, hM2, hb2, ⟨_, he⟩ | ⟨y, hy, he⟩⟩
        · exact ⟨he, hb2⟩
        · exact absurd ⟨M2, y, hM2, hy⟩ hx
    · exact pc_err p a c us.length us bits w hg 3 (by decide) (fun w' hb => pFirst_range p a c us bits w' hp hok (hs.below hb) h0 (by omega))
  · exact pc_err p a c us.length us bits w hg (pkE p us) h0 (fun w' hb => pFirst_bad p a c us bits w' hp hok (hs.below hb) h0)
end Go.Proofs.YtpbankmbdacdaaaGreatDoor

namespace Go.Proofs.YtpbankmbdacdaaaGreatDoor
open Go.ChangeShapes Go.WideShapes Go.ChangeAt Go.WideMaps Go.WideElems Go.RowKit Go.Deep

theorem addr_add (b o k : Nat) : (⟨b, o, none⟩ : Addr).add k = ⟨b, o + k, none⟩ := by
  unfold Addr.add
  split
  · rename_i h; rw [h]; rfl
  · rfl

theorem list4 {α : Type} {l : List α} (h : l.length = 4) : ∃ a b c d, l = [a, b, c, d] := by
  match l, h with
  | [a, b, c, d], _ => exact ⟨a, b, c, d, rfl⟩

set_option maxRecDepth 100000 in
theorem open_cells {H : Type} {enc : TypeId × Value → H} {W : World} {n : Nat} {cs : List Value} {x : DataW H × List MemPlace} (hl : cs.length = 4)
    (hf : DataW.trod enc Tryz.prog W 0 (fun _ => true) true n 26 cs = some x) :
    ∃ p : Pf, cs = [.bool p.v, .int .u64 p.hi, .int .u64 p.lo, .int .i64 p.b] ∧ p.Ok := by
  obtain ⟨c0, c1, c2, c3, rfl⟩ := list4 hl
  obtain ⟨ya, yb, n, hx, _, ha, hb⟩ := trod_struct2 Tryz.underlying26 hf
  simp only [cells_addr, cells_i] at ha hb
  have ha' : DataW.trod enc Tryz.prog W 0 (fun _ => true) true n 24 [c0, c1, c2] = some ya := ha
  have hb' : DataW.trod enc Tryz.prog W 0 (fun _ => true) true n 3 [c3] = some yb := hb
  obtain ⟨y0, y1, y2, m, hya, _, h0, h1, h2⟩ := Go.Deep.trod_struct3 Tryz.underlying24 ha'
  simp only [cells_b, cells_u] at h0 h1 h2
  obtain ⟨b0, e0, rfl⟩ := DataW.trod_bool Tryz.underlying4 (show DataW.trod enc Tryz.prog W 0 (fun _ => true) true m 4 [c0] = some y0 from h0)
  obtain ⟨i1, e1, rfl, w1⟩ := DataW.trod_int Tryz.underlying22 (show DataW.trod enc Tryz.prog W 0 (fun _ => true) true m 22 [c1] = some y1 from h1)
  obtain ⟨i2, e2, rfl, w2⟩ := DataW.trod_int Tryz.underlying22 (show DataW.trod enc Tryz.prog W 0 (fun _ => true) true m 22 [c2] = some y2 from h2)
  obtain ⟨i3, e3, rfl, w3⟩ := DataW.trod_int Tryz.underlying3 hb'
  simp at e0 e1 e2 e3
  subst e0 e1 e2 e3
  obtain ⟨a1, a2⟩ := wd_of w1
  obtain ⟨a3, a4⟩ := wd_of w2
  exact ⟨⟨b0, i1, i2, i3⟩, rfl, a1, a2, a3, a4⟩

set_option maxRecDepth 100000 in
/-- A list of prefixes that came in, opened. -/
theorem open_pfsN {H : Type} {enc : TypeId × Value → H} {W : World} {base : Nat} {v : Value} {d : DataW H} {p : List MemPlace}
    (hv : Value.okWide Tryz.prog W .any base 27 v) (h : DataW.Trod enc Tryz.prog W 0 (fun _ => true) true 27 v d p) :
    ∃ (a : Option Addr) (ps : List Pf) (c : Nat), v = .slice a ps.length c ∧ ps.length ≤ c ∧ Sl W a ps ∧ (∀ p ∈ ps, p.Ok) ∧ (a = none → c = 0) := by
  obtain ⟨a0, len, cap, rfl⟩ := okWide_slice Tryz.underlying27 hv
  obtain ⟨fuel, hf⟩ := h
  rcases open_slice Tryz.underlying27 hf with ⟨hcs, _⟩ | ⟨a, len', cap', m, n, D, Pl, hcs, _, hl, _, hm, _, hel⟩
  · simp [Value.cells] at hcs
    obtain ⟨rfl, rfl, rfl⟩ := hcs
    exact ⟨none, [], 0, rfl, Nat.le_refl _, fun j hj => by simp at hj, by simp, fun _ => rfl⟩
  · simp [Value.cells] at hcs
    obtain ⟨rfl, rfl, rfl⟩ := hcs
    simp only [if_true] at hm
    subst hm
    rw [cells_pf] at hel
    have each : ∀ i, i < len → ∃ p : Pf, p.Ok ∧ ∀ k (hk : k < 4), W.cell? ((a.add (i * 4)).add k) = [Value.bool p.v, .int .u64 p.hi, .int .u64 p.lo, .int .i64 p.b][k]? := fun i hi => by
      obtain ⟨cs', h1, h2⟩ := hel i (by omega)
      obtain ⟨_, hlen, hcell⟩ := World.cells?_some h1
      obtain ⟨p, rfl, hok⟩ := open_cells hlen h2
      exact ⟨p, hok, hcell⟩
    let f : Nat → Pf := fun i => if h : i < len then (each i h).choose else ⟨false, 0, 0, 0⟩
    have hfs : ∀ i, i < len → (f i).Ok ∧ ∀ k (hk : k < 4), W.cell? ((a.add (i * 4)).add k) = [Value.bool (f i).v, .int .u64 (f i).hi, .int .u64 (f i).lo, .int .i64 (f i).b][k]? := fun i hi => by
      have := (each i hi).choose_spec
      simp only [f, hi, dif_pos]
      exact this
    refine ⟨some a, (List.range len).map f, m, by simp, by simpa using hl, ?_, ?_, fun h => by simp at h⟩
    · intro j hj
      have hj' : j < len := by simpa using hj
      obtain ⟨_, hc⟩ := hfs j hj'
      have hsp : a.spot = none := by
        have h0 := (hfs 0 (by omega)).2 0 (by decide)
        have h1 : W.cell? a = some (.bool (f 0).v) := by simpa [Addr.add] using h0
        exact World.cell?_spot h1
      obtain ⟨blk, off, spot⟩ := a
      simp only at hsp
      subst hsp
      have hlt : blk < W.heap.size := by
        have h0 := hc 0 (by decide)
        rw [addr_add, addr_add] at h0
        exact World.block_lt_of_cell? W _ h0
      refine ⟨blk, off, rfl, hlt, ?_, ?_, ?_, ?_⟩
      · have := hc 0 (by decide); rw [addr_add, addr_add] at this; simpa using this
      · have := hc 1 (by decide); rw [addr_add, addr_add] at this; simpa using this
      · have := hc 2 (by decide); rw [addr_add, addr_add] at this; simpa using this
      · have := hc 3 (by decide); rw [addr_add, addr_add] at this; simpa using this
    · intro p hp
      obtain ⟨i, hi, rfl⟩ := List.mem_map.1 hp
      exact (hfs i (List.mem_range.1 hi)).1
set_option maxRecDepth 100000 in
theorem open_pfs {H : Type} {enc : TypeId × Value → H} {W : World} {base : Nat} {v : Value} {d : DataW H} {p : List MemPlace}
    (hv : Value.okWide Tryz.prog W .any base 27 v) (h : DataW.Trod enc Tryz.prog W 0 (fun _ => true) true 27 v d p) :
    ∃ (a : Option Addr) (ps : List Pf) (c : Nat), v = .slice a ps.length c ∧ ps.length ≤ c ∧ Sl W a ps ∧ ∀ p ∈ ps, p.Ok := by
  obtain ⟨a, ps, c, h1, h2, h3, h4, _⟩ := open_pfsN hv h
  exact ⟨a, ps, c, h1, h2, h3, h4⟩
end Go.Proofs.YtpbankmbdacdaaaGreatDoor
