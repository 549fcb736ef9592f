/- What the card leans on: StL, StZ, SuA, SuB, SuC, SuD, SvA. -/
import Derived.Test.YtjainfehlbfiaaaGreatQ19
import Derived.Test.YtjainfehlbfiaaaGreatQ29
import Derived.Test.YtjainfehlbfiaaaGreatQ30
import Derived.Test.YtjainfehlbfiaaaGreatQ20
import Derived.Test.YtjainfehlbfiaaaGreatQ16
import Derived.Deep.CutRange
import Derived.Deep.RegionHeld3
set_option linter.unusedVariables false
set_option linter.unusedSimpArgs false
namespace Go.Proofs.YtjainfehlbfiaaaGreat
open Go.RowKit

set_option maxHeartbeats 16000000 in
set_option maxRecDepth 100000 in
theorem dtick_bad (db B : Nat) (a5 a6 : Option Addr) (c5 c6 : Nat) (P : List Pl) (l : List Ls) (now n : Int) (w : World) (hd : Blk w db 94 [.slice a5 P.length c5, .slice a6 l.length c6, .int .i64 now]) (h0 : n < now) :
    Calls Tryz.prog 55 #[.pointer (some ⟨db, 0, none⟩), .int .i64 n] w fun e w' => e = .returned (.int .i64 4) ∧ Below w.heap.size w w' := by
  obtain ⟨⟨p0, p1, p2⟩, -⟩ := hd.three
  have hlt := hd.lt
  generalize P.length = PN at *
  generalize l.length = LN at *
  clear hd
  go_enter Tryz.func55, Tryz.ntmps55
  go_wp2
  go_ret
  exact ⟨rfl, Below.refl _ _⟩
set_option maxHeartbeats 16000000 in
set_option maxRecDepth 100000 in
theorem dtick_ok (db B : Nat) (a5 a6 : Option Addr) (c5 c6 : Nat) (P : List Pl) (l : List Ls) (now n : Int) (w : World) (hd : Blk w db 94 [.slice a5 P.length c5, .slice a6 l.length c6, .int .i64 now]) (h0 : ¬ n < now) (hdB : B ≤ db) (ho : OwnS w B (.slice a5 P.length c5) (.slice a6 l.length c6) P l) (hl0 : lookL l n = 0) :
    Calls Tryz.prog 55 #[.pointer (some ⟨db, 0, none⟩), .int .i64 n] w fun e w' => e = .returned (.int .i64 0) ∧ ∃ vL, Blk w' db 94 [.slice a5 P.length c5, vL, .int .i64 n] ∧ OwnR w' B (.slice a5 P.length c5) vL P (live l n) ∧ Below B w w' ∧ Fr w w' db (.slice a5 P.length c5) (.slice a6 l.length c6) P := by
  have hBw : B ≤ w.heap.size := Nat.le_trans hdB (Nat.le_of_lt hd.lt)
  have hlie : Lies lsE w a6 l := by obtain ⟨a', c', e, h1, h2, h3⟩ := own_open ho.leases; injection e with e1 e2 e3; rw [e1]; exact h2
  have hD : Hid (∀ W : World, Below w.heap.size w W → Calls Tryz.prog 62 #[.slice a6 l.length c6, .int .i64 n] W fun e w' => ∃ a7 c7, e = .returned (.tuple #[.slice a7 (live l n).length c7, .int .i64 ((l.length : Int) - ((live l n).length : Int)), .int .i64 0]) ∧ w'.ownsRow W.heap.size 106 lsE.k (.slice a7 (live l n).length c7) (live l n).length (rowOf lsE (live l n)) ∧ Below W.heap.size W w') := fun W hW => (drop_ok a6 c6 l n W (hlie.below hW) hl0).mono fun e w' ⟨v, q1, q2, q3⟩ => by
    obtain ⟨a', c', rfl⟩ := own_slice q2
    exact ⟨a', c', q1, q2, q3⟩
  have HD0 := Lib.hid hd
  have hFin : Hid (∀ (w1 : World) (a7 : Option Addr) (c7 : Nat), Below w.heap.size w w1 → w1.ownsRow w.heap.size 106 lsE.k (.slice a7 (live l n).length c7) (live l n).length (rowOf lsE (live l n)) → Blk ((w1.setCell ⟨db, 1, none⟩ (.slice a7 (live l n).length c7)).setCell ⟨db, 2, none⟩ (.int .i64 n)) db 94 [.slice a5 P.length c5, .slice a7 (live l n).length c7, .int .i64 n] ∧ OwnR ((w1.setCell ⟨db, 1, none⟩ (.slice a7 (live l n).length c7)).setCell ⟨db, 2, none⟩ (.int .i64 n)) B (.slice a5 P.length c5) (.slice a7 (live l n).length c7) P (live l n) ∧ Below B w ((w1.setCell ⟨db, 1, none⟩ (.slice a7 (live l n).length c7)).setCell ⟨db, 2, none⟩ (.int .i64 n)) ∧ Fr w ((w1.setCell ⟨db, 1, none⟩ (.slice a7 (live l n).length c7)).setCell ⟨db, 2, none⟩ (.int .i64 n)) db (.slice a5 P.length c5) (.slice a6 l.length c6) P) := by
    intro w1 a7 c7 hW h3
    have hD1 := hd.below hW
    have hP1 := own_keep ho.pools hW
    have hdn := own_ne_blk h3 hD1 (by decide)
    have hpn := own_ne_blk hP1 hD1 (by decide)
    refine ⟨(hD1.set 1 _).set 2 _, ⟨own_cell (own_cell hP1 1 hpn _) 2 hpn _, own_cell (own_cell (row_base h3 hBw) 1 hdn _) 2 hdn _, fun x hx => ?_⟩, ((hW.mono hBw).setCell (by exact hdB) _).setCell (by exact hdB) _, ((Fr.below hW).set (.inl rfl) 1 _).set (.inl rfl) 2 _⟩
    have hk := own_keep (ho.kept x hx) hW
    have hkn := own_ne_blk hk hD1 (by decide)
    exact own_cell (own_cell hk 1 hkn _) 2 hkn _
  obtain ⟨⟨p0, p1, p2⟩, p3, p4, p5⟩ := hd.three
  generalize rowOf lsE (live l n) = row at *
  generalize live l n = LL at *
  generalize LL.length = KN at *
  generalize P.length = PN at *
  generalize l.length = LN at *
  clear ho hlie hl0 hd
  go_enter Tryz.func55, Tryz.ntmps55
  go_wp2_with fail
  refine (hD.out _ (Below.refl _ _)).mono ?_
  rintro e w1 ⟨a7, c7, rfl, ho7, hb1⟩
  have HF := Lib.hid (hFin.out w1 a7 c7 hb1 ho7)
  obtain ⟨⟨q0, q1, q2⟩, q3, q4, q5⟩ := (HD0.out.below hb1).three
  clear hb1 ho7 p0 p1 p2 p3 p4 p5 hFin hD
  go_wp2
  go_ret
  exact ⟨rfl, _, HF.out.1, HF.out.2.1, HF.out.2.2⟩
end Go.Proofs.YtjainfehlbfiaaaGreat

namespace Go.Proofs.YtjainfehlbfiaaaGreat
open Go.RowKit

/-- A state: its pools, its leases, its time. -/
structure Sta where
  P : List Pl
  l : List Ls
  now : Int
def zSta : Sta := ⟨[], [], 0⟩
def NLof (p : Pf) (l : List Ls) (G : Int × List Ls × Ad) : List Ls := l.take (fromL p l) ++ G.2.1 ++ l.drop (fromL p l + (toL p l - fromL p l))
def Gof (y : Pl) (l : List Ls) (who : ByteArray) (now n : Int) : Int × List Ls × Ad := gOut y.p y.kept ((l.drop (fromL y.p l)).take (toL y.p l - fromL y.p l)) who now n
def elseB (y : Pl) (l : List Ls) (i : Option Nat) : Bool := match i with
  | none => false
  | some i => decide (i < fromL y.p l ∨ fromL y.p l + (toL y.p l - fromL y.p l) ≤ i)
/-- What an op of its form makes of a state that is right: the error, the address, the state. -/
def doSt (S : Sta) (o : Opd) : Int × Ad × Sta :=
  if o.k = 1 then (if poolC S.P o.p = 0 then (0, zeroAd, ⟨insP S.P o.p o.pok, S.l, S.now⟩) else (poolC S.P o.p, zeroAd, zSta))
  else if o.k = 2 then (match poolAt S.P o.a with
    | none => (5, zeroAd, zSta)
    | some n => match S.P[n]? with
      | none => (5, zeroAd, zSta)
      | some y => if keptC y.kept o.a = 0 then (0, zeroAd, ⟨S.P.set n ⟨y.p, insA y.kept o.a, none, 0, y.pok⟩, S.l, S.now⟩) else (keptC y.kept o.a, zeroAd, zSta))
  else if o.k = 3 then (match S.P[o.pof.toNat]? with
    | none => (5, zeroAd, zSta)
    | some y => if elseB y S.l (S.l.findIdx? (whoIs o.who)) = true then (6, zeroAd, zSta)
      else (gcode (Gof y S.l o.who S.now o.n) (NLof y.p S.l (Gof y S.l o.who S.now o.n)).length, gaddr (Gof y S.l o.who S.now o.n) (NLof y.p S.l (Gof y S.l o.who S.now o.n)).length, if gcode (Gof y S.l o.who S.now o.n) (NLof y.p S.l (Gof y S.l o.who S.now o.n)).length = 0 then ⟨S.P, NLof y.p S.l (Gof y S.l o.who S.now o.n), S.now⟩ else zSta))
  else if o.k = 4 then (match S.l.findIdx? (whoIs o.who) with
    | none => (5, zeroAd, zSta)
    | some n => match S.l[n]? with
      | none => (5, zeroAd, zSta)
      | some x => (0, x.a, ⟨S.P, S.l.take n ++ S.l.drop (n + 1), S.now⟩))
  else if o.n < S.now then (4, zeroAd, zSta)
  else (0, zeroAd, ⟨S.P, live S.l o.n, o.n⟩)
/-- A pool without where it lies. -/
def Pl.bare (x : Pl) : Pl := ⟨x.p, x.kept, none, 0, x.pok⟩
def Sta.bare (S : Sta) : Sta := ⟨S.P.map Pl.bare, S.l, S.now⟩
theorem bare_eq {x y : Pl} (h1 : x.p = y.p) (h2 : x.kept = y.kept) : x.bare = y.bare := by
  cases x; cases y; simp at h1 h2; subst h1; subst h2; rfl
theorem bare_abs : ∀ {P Q : List Pl}, absP P = absP Q → P.map Pl.bare = Q.map Pl.bare
  | [], [], _ => rfl
  | [], y :: Q, h => by simp [absP] at h
  | x :: P, [], h => by simp [absP] at h
  | x :: P, y :: Q, h => by
    simp only [absP, List.map_cons, List.cons.injEq, Prod.mk.injEq] at h ⊢
    exact ⟨bare_eq h.1.1 h.1.2, bare_abs h.2⟩
theorem abs_bare (P : List Pl) : absP (P.map Pl.bare) = absP P := by simp [absP, Pl.bare, Function.comp_def]
theorem poolC_bare (P : List Pl) (p : Pf) : poolC (P.map Pl.bare) p = poolC P p := by simp [poolC, List.any_map, Function.comp_def, Pl.bare]
theorem findIdx?_bare (P : List Pl) (f : Pl → Bool) (hf : ∀ x : Pl, f x.bare = f x) : (P.map Pl.bare).findIdx? f = P.findIdx? f := by
  rw [List.findIdx?_map]; congr 1; funext x; exact hf x
theorem spotP_bare (P : List Pl) (p : Pf) : spotP (P.map Pl.bare) p = spotP P p := by
  unfold spotP firstN
  rw [findIdx?_bare P _ (fun x => rfl), List.length_map]
theorem insP_bare (P : List Pl) (p : Pf) (hp : p.Ok) : insP (P.map Pl.bare) p hp = (insP P p hp).map Pl.bare := by
  unfold insP
  rw [spotP_bare]
  simp [List.map_take, List.map_drop, Pl.bare]
theorem poolAt_bare (P : List Pl) (x : Ad) : poolAt (P.map Pl.bare) x = poolAt P x := findIdx?_bare P _ (fun x => rfl)
theorem bare_p (y : Pl) : y.bare.p = y.p := rfl
theorem bare_kept (y : Pl) : y.bare.kept = y.kept := rfl
theorem elseB_bare (y : Pl) (l : List Ls) (i : Option Nat) : elseB y.bare l i = elseB y l i := by cases i <;> rfl
theorem Gof_bare (y : Pl) (l : List Ls) (who : ByteArray) (now n : Int) : Gof y.bare l who now n = Gof y l who now n := rfl
theorem doSt_bare (S : Sta) (o : Opd) : doSt S.bare o = ((doSt S o).1, (doSt S o).2.1, (doSt S o).2.2.bare) := by
  obtain ⟨P, l, now⟩ := S
  have hz : zSta.bare = zSta := rfl
  by_cases h1 : o.k = 1
  · simp only [doSt, Sta.bare, if_pos h1, poolC_bare, insP_bare]
    split <;> rfl
  by_cases h2 : o.k = 2
  · simp only [doSt, Sta.bare, if_neg h1, if_pos h2, poolAt_bare, List.getElem?_map]
    cases poolAt P o.a with
    | none => rfl
    | some n =>
      simp only
      cases P[n]? with
      | none => rfl
      | some y =>
        simp only [Option.map_some]
        show (if keptC y.kept o.a = 0 then ((0, zeroAd, ⟨(P.map Pl.bare).set n ⟨y.p, insA y.kept o.a, none, 0, y.pok⟩, l, now⟩) : Int × Ad × Sta) else (keptC y.kept o.a, zeroAd, zSta)) = _
        by_cases h : keptC y.kept o.a = 0
        · rw [if_pos h, if_pos h]
          simp [List.map_set, Pl.bare]
        · rw [if_neg h, if_neg h]; rfl
  by_cases h3 : o.k = 3
  · simp only [doSt, Sta.bare, if_neg h1, if_neg h2, if_pos h3, List.getElem?_map]
    cases P[o.pof.toNat]? with
    | none => rfl
    | some y =>
      simp only [Option.map_some]
      show (if elseB y l (l.findIdx? (whoIs o.who)) = true then ((6, zeroAd, zSta) : Int × Ad × Sta) else (gcode (Gof y l o.who now o.n) (NLof y.p l (Gof y l o.who now o.n)).length, gaddr (Gof y l o.who now o.n) (NLof y.p l (Gof y l o.who now o.n)).length, if gcode (Gof y l o.who now o.n) (NLof y.p l (Gof y l o.who now o.n)).length = 0 then ⟨P.map Pl.bare, NLof y.p l (Gof y l o.who now o.n), now⟩ else zSta)) = _
      by_cases h : elseB y l (l.findIdx? (whoIs o.who)) = true
      · rw [if_pos h, if_pos h]; rfl
      · rw [if_neg h, if_neg h]
        by_cases h' : gcode (Gof y l o.who now o.n) (NLof y.p l (Gof y l o.who now o.n)).length = 0
        · rw [if_pos h', if_pos h']
        · rw [if_neg h', if_neg h']; rfl
  by_cases h4 : o.k = 4
  · simp only [doSt, Sta.bare, if_neg h1, if_neg h2, if_neg h3, if_pos h4]
    cases l.findIdx? (whoIs o.who) with
    | none => rfl
    | some n =>
      simp only
      cases l[n]? with
      | none => rfl
      | some x => rfl
  simp only [doSt, Sta.bare, if_neg h1, if_neg h2, if_neg h3, if_neg h4]
  show (if o.n < now then ((4, zeroAd, zSta) : Int × Ad × Sta) else (0, zeroAd, ⟨P.map Pl.bare, live l o.n, o.n⟩)) = _
  by_cases h5 : o.n < now
  · rw [if_pos h5, if_pos h5]; rfl
  · rw [if_neg h5, if_neg h5]
/-- Two states that differ by where their pools lie alone. -/
theorem doSt_congr {P Q : List Pl} (h : absP P = absP Q) (l : List Ls) (now : Int) (o : Opd) : (doSt ⟨P, l, now⟩ o).1 = (doSt ⟨Q, l, now⟩ o).1 ∧ (doSt ⟨P, l, now⟩ o).2.1 = (doSt ⟨Q, l, now⟩ o).2.1 ∧ absP (doSt ⟨P, l, now⟩ o).2.2.P = absP (doSt ⟨Q, l, now⟩ o).2.2.P ∧ (doSt ⟨P, l, now⟩ o).2.2.l = (doSt ⟨Q, l, now⟩ o).2.2.l ∧ (doSt ⟨P, l, now⟩ o).2.2.now = (doSt ⟨Q, l, now⟩ o).2.2.now := by
  have h1 := doSt_bare ⟨P, l, now⟩ o
  have h2 := doSt_bare ⟨Q, l, now⟩ o
  have hb : Sta.bare ⟨P, l, now⟩ = Sta.bare ⟨Q, l, now⟩ := by unfold Sta.bare; rw [bare_abs h]
  rw [hb, h2] at h1
  simp only [Prod.mk.injEq, Sta.bare, Sta.mk.injEq] at h1
  obtain ⟨e1, e2, e3, e4, e5⟩ := h1
  refine ⟨e1.symm, e2.symm, ?_, e4.symm, e5.symm⟩
  rw [← abs_bare (doSt ⟨P, l, now⟩ o).2.2.P, ← e3, abs_bare]
/-- The leases of a prefix: they begin where they end, or ahead. -/
theorem last_first {p : Pf} (hp : p.Ok) (cp : p.chk = 0) (y : Ls) (h : lessB p.v (laH p.v p.hi p.b) (laL p.v p.lo p.b) y.a.v y.a.hi y.a.lo = true) : (!lessB y.a.v y.a.hi y.a.lo p.v p.hi p.lo) = true := by
  have r : Right p.v p.hi p.lo p.b := (right_iff p.v p.hi p.lo p.b hp.1 hp.2.1 hp.2.2.1 hp.2.2.2).1 cp
  obtain ⟨e, c1, _, l1⟩ := la_num r
  have hy := y.a.ok
  by_cases cy : chk y.a.v y.a.hi y.a.lo = 0
  · rw [(less_num l1 hy.2 c1 cy).2] at h
    cases hb : lessB y.a.v y.a.hi y.a.lo p.v p.hi p.lo with
    | false => rfl
    | true =>
      have h2 := (less_num hy.2 ⟨r.l0, r.l1⟩ cy r.c).2.1 hb
      have ha := amt_pos p.v p.b
      rcases h with ⟨h1, h3⟩ | ⟨h1, h3⟩ <;> rcases h2 with ⟨h4, h5⟩ | ⟨h4, h5⟩
      · omega
      · rw [h1, h4] at h5; exact absurd h5 (by decide)
      · rw [h4, h1] at h3; exact absurd h3 (by decide)
      · rw [h1] at h5; exact absurd h5 (by decide)
  · have : lessB y.a.v y.a.hi y.a.lo p.v p.hi p.lo = false := by
      unfold lessB
      rw [if_neg]
      intro h9
      unfold lessE at h9
      rw [if_neg cy] at h9
      exact cy h9
    rw [this]; rfl
theorem from_to {p : Pf} (hp : p.Ok) (cp : p.chk = 0) (l : List Ls) : toL p l = fromL p l + (toL p l - fromL p l) ∧ fromL p l + (toL p l - fromL p l) ≤ l.length := by
  have h1 : fromL p l ≤ toL p l := firstN_mono fun x _ hx => last_first hp cp x hx
  have h2 : toL p l ≤ l.length := firstN_le _ _
  omega
end Go.Proofs.YtjainfehlbfiaaaGreat

namespace Go.Proofs.YtjainfehlbfiaaaGreat
open Go.RowKit

theorem setCell_same {w : World} {b t : Nat} {l : List Value} (h : Blk w b t l) (j : Nat) (u : Value) (hu : l[j]? = some u) : w.setCell ⟨b, j, none⟩ u = w := by
  unfold World.setCell
  have : (w.heap.modify b fun | .cells c elem frozen => .cells (if (none : Option Nat).isSome then c else c.setIfInBounds j u) elem frozen | o => o) = w.heap := by
    apply Array.ext
    · simp
    · intro i h1 h2
      rw [Array.getElem_modify]
      split
      · rename_i e
        subst e
        have hb : w.heap[b] = .cells l.toArray t (0, 0) := by
          have := Array.getElem?_eq_getElem h2
          unfold Blk at h
          rw [this] at h
          exact Option.some.inj h
        rw [hb]
        simp only [Option.isSome_none, Bool.false_eq_true, if_false, Obj.cells.injEq, and_true]
        apply Array.ext
        · simp
        · intro k k1 k2
          rw [Array.getElem_setIfInBounds]
          split
          · rename_i e
            subst e
            have : l[j]? = some l[j] := List.getElem?_eq_getElem (by simpa using k2)
            rw [this] at hu
            simpa using (Option.some.inj hu).symm
          · rfl
      · rfl
  exact congrArg (fun x => { w with heap := x }) this
theorem leasesE_ok {P : List Pl} {l : List Ls} {now : Int} (h : leasesE P l now = 0) : lookL l now = 0 ∧ leasesFrom P now [] l = 0 := by
  unfold leasesE at h
  by_cases h1 : lookL l now = 0
  · rw [if_pos h1] at h; exact ⟨h1, h⟩
  · rw [if_neg h1] at h; exact absurd h h1
/-- What holds of a state that is right. -/
theorem stateE_ok {P : List Pl} {l : List Ls} {now : Int} (h : stateE P l now = 0) : P.length ≤ 3 ∧ (∀ y ∈ P, poolE y.p y.kept = 0) ∧ (∀ y ∈ P, y.p.chk = 0) ∧ upP P = 0 ∧ (0 ≤ now ∧ now ≤ 9999) ∧ lookL l now = 0 ∧ leasesFrom P now [] l = 0 ∧ l.length ≤ 20 := by
  unfold stateE at h
  by_cases h1 : poolsE P = 0
  · rw [if_pos h1] at h
    by_cases h2 : rngE now 0 9999 = 0
    · rw [if_pos h2] at h
      have := poolsE_ok h1
      have h3 := leasesE_ok h
      have h4 : 0 ≤ now ∧ now ≤ 9999 := by
        unfold rngE at h2
        by_cases h5 : now < 0 ∨ 9999 < now
        · rw [if_pos h5] at h2; exact absurd h2 (by decide)
        · omega
      exact ⟨this.1, badP_all this.2.1, fun y hy => poolE_chk (badP_all this.2.1 y hy), this.2.2, h4, h3.1, h3.2, lookL_len h3.1⟩
    · rw [if_neg h2] at h; exact absurd h h2
  · rw [if_neg h1] at h; exact absurd h h1
theorem live_of {P : List Pl} {l : List Ls} {now : Int} (h : leasesFrom P now [] l = 0) : ∀ x ∈ l, ¬ x.un < now := fun x hx => by
  obtain ⟨i, hi, rfl⟩ := List.getElem_of_mem hx
  exact (leasesFrom_zero h i hi).2.2
theorem kept6 {p : Pf} {k : List Ad} (h : poolE p k = 0) : k.length ≤ 6 := by
  unfold poolE at h
  by_cases h1 : p.chk = 0
  · rw [if_pos h1] at h
    by_cases h2 : wideB p.v p.b = true ∨ 6 < k.length
    · rw [if_pos h2] at h; exact absurd h (by decide)
    · exact Nat.le_of_not_lt fun h9 => h2 (.inr h9)
  · rw [if_neg h1] at h; exact absurd h h1
theorem lookL_at {l : List Ls} {now n : Int} (h : lookL l now = 0) (h0 : 0 ≤ n) (h1 : n ≤ 9999) : lookL l n = 0 := by
  unfold lookL at h ⊢
  by_cases a : 20 < l.length
  · rw [if_pos a] at h; exact absurd h (by decide)
  rw [if_neg a] at h ⊢
  by_cases b : rgtAll l = 0
  · rw [if_pos b] at h ⊢
    by_cases c : rises l = true
    · rw [if_pos c, if_neg (by omega)]
    · rw [if_neg c] at h; exact absurd h (by decide)
  · rw [if_neg b] at h; exact absurd h b
/-- What an op has made, if it made something. -/
def Made (w' : World) (db B : Nat) (code : Int) (R : Sta) : Prop := code = 0 → ∃ vP vL P', Blk w' db 94 [vP, vL, .int .i64 R.now] ∧ OwnR w' B vP vL P' R.l ∧ absP P' = absP R.P
theorem run1 (db B : Nat) (a5 a6 : Option Addr) (c5 c6 : Nat) (P : List Pl) (l : List Ls) (now : Int) (o : Opd) (w : World) (hd : Blk w db 94 [.slice a5 P.length c5, .slice a6 l.length c6, .int .i64 now]) (hdB : B ≤ db) (ho : OwnS w B (.slice a5 P.length c5) (.slice a6 l.length c6) P l) (hS : stateE P l now = 0) (hF : formE o = 0) (hk : o.k = 1) :
    Calls Tryz.prog 51 #[.pointer (some ⟨db, 0, none⟩), .agg #[.bool o.p.v, .int .u64 o.p.hi, .int .u64 o.p.lo, .int .i64 o.p.b]] w fun e w' => e = .returned (.int .i64 (doSt ⟨P, l, now⟩ o).1) ∧ Made w' db B (doSt ⟨P, l, now⟩ o).1 (doSt ⟨P, l, now⟩ o).2.2 ∧ Fr w w' db (.slice a5 P.length c5) (.slice a6 l.length c6) P ∧ Below B w w' := by
  obtain ⟨hP3, hpe, hg, hup, hnow, hlk, hfr, hl⟩ := stateE_ok hS
  have hBw : B ≤ w.heap.size := Nat.le_trans hdB (Nat.le_of_lt hd.lt)
  have cp : o.p.chk = 0 := by
    unfold formE at hF
    rw [if_neg (by omega)] at hF
    by_cases h2 : eqO o (nmd o) = false
    · rw [if_pos h2] at hF; exact absurd hF (by decide)
    · rw [if_neg h2, if_pos hk] at hF; exact poolE_chk hF
  by_cases h0 : poolC P o.p = 0
  · have e : doSt ⟨P, l, now⟩ o = (0, zeroAd, ⟨insP P o.p o.pok, l, now⟩) := by unfold doSt; rw [if_pos hk, if_pos h0]
    rw [e]
    refine (dpool_ok db B a5 a6 c5 c6 P l now o.p o.pok cp w hd hdB ho hg hP3 h0).mono ?_
    rintro e w' ⟨rfl, vP, q1, q2, q3, q4⟩
    exact ⟨rfl, fun _ => ⟨vP, _, _, q1, q2, rfl⟩, q4, q3⟩
  · have e : doSt ⟨P, l, now⟩ o = (poolC P o.p, zeroAd, zSta) := by unfold doSt; rw [if_pos hk, if_neg h0]
    rw [e]
    refine (dpool_bad db B a5 a6 c5 c6 P l now o.p o.pok cp w hd hdB ho hg hP3 h0).mono ?_
    rintro e w' ⟨rfl, q⟩
    exact ⟨rfl, fun h => absurd h h0, Fr.below q, q.mono hBw⟩
theorem run2 (db B : Nat) (a5 a6 : Option Addr) (c5 c6 : Nat) (P : List Pl) (l : List Ls) (now : Int) (o : Opd) (w : World) (hd : Blk w db 94 [.slice a5 P.length c5, .slice a6 l.length c6, .int .i64 now]) (hdB : B ≤ db) (ho : OwnS w B (.slice a5 P.length c5) (.slice a6 l.length c6) P l) (hS : stateE P l now = 0) (hF : formE o = 0) (hk : o.k = 2) :
    Calls Tryz.prog 52 #[.pointer (some ⟨db, 0, none⟩), .agg #[.bool o.a.v, .int .u64 o.a.hi, .int .u64 o.a.lo]] w fun e w' => e = .returned (.int .i64 (doSt ⟨P, l, now⟩ o).1) ∧ Made w' db B (doSt ⟨P, l, now⟩ o).1 (doSt ⟨P, l, now⟩ o).2.2 ∧ Fr w w' db (.slice a5 P.length c5) (.slice a6 l.length c6) P ∧ Below B w w' := by
  obtain ⟨hP3, hpe, hg, hup, hnow, hlk, hfr, hl⟩ := stateE_ok hS
  have hBw : B ≤ w.heap.size := Nat.le_trans hdB (Nat.le_of_lt hd.lt)
  cases hp : poolAt P o.a with
  | none =>
    have e : doSt ⟨P, l, now⟩ o = (5, zeroAd, zSta) := by unfold doSt; rw [if_neg (by omega), if_pos hk]; simp only [hp]
    rw [e]
    refine (dkeep_none db B a5 a6 c5 c6 P l now o.a w hd hdB ho hg hP3 hp).mono ?_
    rintro e w' ⟨rfl, q⟩
    exact ⟨rfl, fun h => absurd h (show ¬ (5 : Int) = 0 by decide), Fr.below q, q.mono hBw⟩
  | some n =>
    obtain ⟨hn, -⟩ := List.findIdx?_eq_some_iff_getElem.1 hp
    by_cases h0 : keptC P[n].kept o.a = 0
    · have e : doSt ⟨P, l, now⟩ o = (0, zeroAd, ⟨P.set n ⟨P[n].p, insA P[n].kept o.a, none, 0, P[n].pok⟩, l, now⟩) := by unfold doSt; rw [if_neg (by omega), if_pos hk]; simp only [hp, List.getElem?_eq_getElem hn, if_pos h0]
      rw [e]
      refine (dkeep_ok db B a5 a6 c5 c6 P l now o.a w hd hdB ho hg hP3 (fun y hy => kept6 (hpe y hy)) n hn hp h0).mono ?_
      rintro e w' ⟨rfl, s', c', q1, q2, q3, q4⟩
      exact ⟨rfl, fun _ => ⟨_, _, _, q1, q2, by simp [absP, List.map_set]⟩, q4, q3⟩
    · have e : doSt ⟨P, l, now⟩ o = (keptC P[n].kept o.a, zeroAd, zSta) := by unfold doSt; rw [if_neg (by omega), if_pos hk]; simp only [hp, List.getElem?_eq_getElem hn, if_neg h0]
      rw [e]
      refine (dkeep_bad db B a5 a6 c5 c6 P l now o.a w hd hdB ho hg hP3 (fun y hy => kept6 (hpe y hy)) n hn hp h0).mono ?_
      rintro e w' ⟨rfl, q⟩
      exact ⟨rfl, fun h => absurd h h0, Fr.below q, q.mono hBw⟩
theorem run5 (db B : Nat) (a5 a6 : Option Addr) (c5 c6 : Nat) (P : List Pl) (l : List Ls) (now : Int) (o : Opd) (w : World) (hd : Blk w db 94 [.slice a5 P.length c5, .slice a6 l.length c6, .int .i64 now]) (hdB : B ≤ db) (ho : OwnS w B (.slice a5 P.length c5) (.slice a6 l.length c6) P l) (hS : stateE P l now = 0) (hF : formE o = 0) (hk : o.k = 5) :
    Calls Tryz.prog 55 #[.pointer (some ⟨db, 0, none⟩), .int .i64 o.n] w fun e w' => e = .returned (.int .i64 (doSt ⟨P, l, now⟩ o).1) ∧ Made w' db B (doSt ⟨P, l, now⟩ o).1 (doSt ⟨P, l, now⟩ o).2.2 ∧ Fr w w' db (.slice a5 P.length c5) (.slice a6 l.length c6) P ∧ Below B w w' := by
  obtain ⟨hP3, hpe, hg, hup, hnow, hlk, hfr, hl⟩ := stateE_ok hS
  have hBw : B ≤ w.heap.size := Nat.le_trans hdB (Nat.le_of_lt hd.lt)
  have hn : 0 ≤ o.n ∧ o.n ≤ 9999 := by
    unfold formE at hF
    rw [if_neg (by omega)] at hF
    by_cases h2 : eqO o (nmd o) = false
    · rw [if_pos h2] at hF; exact absurd hF (by decide)
    · rw [if_neg h2, if_neg (by omega), if_neg (by omega), if_pos hk] at hF
      unfold rngE at hF
      by_cases h5 : o.n < 0 ∨ 9999 < o.n
      · rw [if_pos h5] at hF; exact absurd hF (by decide)
      · omega
  by_cases h0 : o.n < now
  · have e : doSt ⟨P, l, now⟩ o = (4, zeroAd, zSta) := by unfold doSt; rw [if_neg (by omega), if_neg (by omega), if_neg (by omega), if_neg (by omega), if_pos h0]
    rw [e]
    refine (dtick_bad db B a5 a6 c5 c6 P l now o.n w hd h0).mono ?_
    rintro e w' ⟨rfl, q⟩
    exact ⟨rfl, fun h => absurd h (show ¬ (4 : Int) = 0 by decide), Fr.below q, q.mono hBw⟩
  · have e : doSt ⟨P, l, now⟩ o = (0, zeroAd, ⟨P, live l o.n, o.n⟩) := by unfold doSt; rw [if_neg (by omega), if_neg (by omega), if_neg (by omega), if_neg (by omega), if_neg h0]
    rw [e]
    refine (dtick_ok db B a5 a6 c5 c6 P l now o.n w hd h0 hdB ho (lookL_at hlk hn.1 hn.2)).mono ?_
    rintro e w' ⟨rfl, vL, q1, q2, q3, q4⟩
    exact ⟨rfl, fun _ => ⟨_, vL, _, q1, q2, rfl⟩, q4, q3⟩
/-- .. where the pools stay. -/
def Made2 (w' : World) (db B : Nat) (vP : Value) (P : List Pl) (code : Int) (R : Sta) : Prop := code = 0 → absP P = absP R.P ∧ ∃ vL, Blk w' db 94 [vP, vL, .int .i64 R.now] ∧ OwnR w' B vP vL P R.l
theorem run4 (db B : Nat) (a5 a6 : Option Addr) (c5 c6 : Nat) (P : List Pl) (l : List Ls) (now : Int) (o : Opd) (w : World) (hd : Blk w db 94 [.slice a5 P.length c5, .slice a6 l.length c6, .int .i64 now]) (hdB : B ≤ db) (ho : OwnS w B (.slice a5 P.length c5) (.slice a6 l.length c6) P l) (hS : stateE P l now = 0) (hF : formE o = 0) (hk : o.k = 4) :
    Calls Tryz.prog 54 #[.pointer (some ⟨db, 0, none⟩), .string o.who] w fun e w' => e = .returned (.tuple #[.agg #[.bool (doSt ⟨P, l, now⟩ o).2.1.v, .int .u64 (doSt ⟨P, l, now⟩ o).2.1.hi, .int .u64 (doSt ⟨P, l, now⟩ o).2.1.lo], .int .i64 (doSt ⟨P, l, now⟩ o).1]) ∧ Made2 w' db B (.slice a5 P.length c5) P (doSt ⟨P, l, now⟩ o).1 (doSt ⟨P, l, now⟩ o).2.2 ∧ Fr w w' db (.slice a5 P.length c5) (.slice a6 l.length c6) P ∧ Below B w w' := by
  obtain ⟨hP3, hpe, hg, hup, hnow, hlk, hfr, hl⟩ := stateE_ok hS
  have hBw : B ≤ w.heap.size := Nat.le_trans hdB (Nat.le_of_lt hd.lt)
  cases hp : l.findIdx? (whoIs o.who) with
  | none =>
    have e : doSt ⟨P, l, now⟩ o = (5, zeroAd, zSta) := by unfold doSt; rw [if_neg (by omega), if_neg (by omega), if_neg (by omega), if_pos hk]; simp only [hp]
    rw [e]
    refine (dfree_none db B a5 a6 c5 c6 P l now o.who w hd hdB ho hl hp).mono ?_
    rintro e w' ⟨rfl, q⟩
    exact ⟨rfl, fun h => absurd h (show ¬ (5 : Int) = 0 by decide), Fr.below q, q.mono hBw⟩
  | some n =>
    obtain ⟨hn, -⟩ := List.findIdx?_eq_some_iff_getElem.1 hp
    have e : doSt ⟨P, l, now⟩ o = (0, l[n].a, ⟨P, l.take n ++ l.drop (n + 1), now⟩) := by unfold doSt; rw [if_neg (by omega), if_neg (by omega), if_neg (by omega), if_pos hk]; simp only [hp, List.getElem?_eq_getElem hn]
    rw [e]
    refine (dfree_ok db B a5 a6 c5 c6 P l now o.who w hd hdB ho hl n (l.length - (n + 1)) (by omega) hn hp).mono ?_
    rintro e w' ⟨rfl, q1, q2, q3, q4⟩
    exact ⟨rfl, fun _ => ⟨rfl, _, q1, q2⟩, q4, q3⟩
theorem run3 (db B : Nat) (a5 a6 : Option Addr) (c5 c6 : Nat) (P : List Pl) (l : List Ls) (now : Int) (o : Opd) (w : World) (hd : Blk w db 94 [.slice a5 P.length c5, .slice a6 l.length c6, .int .i64 now]) (hdB : B ≤ db) (ho : OwnS w B (.slice a5 P.length c5) (.slice a6 l.length c6) P l) (hS : stateE P l now = 0) (hF : formE o = 0) (hk : o.k = 3) :
    Calls Tryz.prog 53 #[.pointer (some ⟨db, 0, none⟩), .agg #[.int .i64 o.k, .bool o.p.v, .int .u64 o.p.hi, .int .u64 o.p.lo, .int .i64 o.p.b, .bool o.a.v, .int .u64 o.a.hi, .int .u64 o.a.lo, .string o.who, .int .i64 o.pof, .int .i64 o.n]] w fun e w' => e = .returned (.tuple #[.agg #[.bool (doSt ⟨P, l, now⟩ o).2.1.v, .int .u64 (doSt ⟨P, l, now⟩ o).2.1.hi, .int .u64 (doSt ⟨P, l, now⟩ o).2.1.lo], .int .i64 (doSt ⟨P, l, now⟩ o).1]) ∧ Made2 w' db B (.slice a5 P.length c5) P (doSt ⟨P, l, now⟩ o).1 (doSt ⟨P, l, now⟩ o).2.2 ∧ Fr w w' db (.slice a5 P.length c5) (.slice a6 l.length c6) P ∧ Below B w w' := by
  obtain ⟨hP3, hpe, hg, hup, hnow, hlk, hfr, hl⟩ := stateE_ok hS
  have hBw : B ≤ w.heap.size := Nat.le_trans hdB (Nat.le_of_lt hd.lt)
  have hof : 0 ≤ o.pof := by
    unfold formE at hF
    rw [if_neg (by omega)] at hF
    by_cases h2 : eqO o (nmd o) = false
    · rw [if_pos h2] at hF; exact absurd hF (by decide)
    · rw [if_neg h2, if_neg (by omega), if_neg (by omega), if_neg (by omega)] at hF
      by_cases h3 : whoB o.who = false
      · rw [if_pos h3] at hF; exact absurd hF (by decide)
      · rw [if_neg h3, if_neg (by omega)] at hF
        by_cases h4 : o.pof < 0 ∨ 2 < o.pof
        · rw [if_pos h4] at hF; exact absurd hF (by decide)
        · omega
  obtain ⟨n, hof⟩ : ∃ n : Nat, o.pof = (n : Int) := ⟨o.pof.toNat, by omega⟩
  have hnn : o.pof.toNat = n := by omega
  by_cases hn : n < P.length
  · have hft := from_to P[n].pok (hg _ (List.getElem_mem hn)) l
    cases hi : l.findIdx? (whoIs o.who) with
    | none =>
      have he : doSt ⟨P, l, now⟩ o = (gcode (Gof P[n] l o.who now o.n) (NLof P[n].p l (Gof P[n] l o.who now o.n)).length, gaddr (Gof P[n] l o.who now o.n) (NLof P[n].p l (Gof P[n] l o.who now o.n)).length, if gcode (Gof P[n] l o.who now o.n) (NLof P[n].p l (Gof P[n] l o.who now o.n)).length = 0 then ⟨P, NLof P[n].p l (Gof P[n] l o.who now o.n), now⟩ else zSta) := by
        unfold doSt; rw [if_neg (by omega), if_neg (by omega), if_pos hk]; simp only [hnn, List.getElem?_eq_getElem hn, hi, elseB, Bool.false_eq_true, if_false]
      rw [he]
      refine (dgrant_run db B a5 a6 c5 c6 P l now o w hd hdB ho hg hl (live_of hfr) n _ hn hof hft.1 hft.2 (.inl hi) (Gof P[n] l o.who now o.n) rfl (NLof P[n].p l (Gof P[n] l o.who now o.n)) rfl).mono ?_
      rintro e w' ⟨rfl, q1, q2, q3⟩
      refine ⟨rfl, fun h => ?_, q2, q3⟩
      rw [if_pos h]
      exact ⟨rfl, q1 h⟩
    | some i =>
      by_cases hb : i < fromL P[n].p l ∨ fromL P[n].p l + (toL P[n].p l - fromL P[n].p l) ≤ i
      · have he : doSt ⟨P, l, now⟩ o = (6, zeroAd, zSta) := by
          unfold doSt; rw [if_neg (by omega), if_neg (by omega), if_pos hk]; simp only [hnn, List.getElem?_eq_getElem hn, hi, elseB, decide_eq_true hb, if_true]
        rw [he]
        refine (dgrant_other db B a5 a6 c5 c6 P l now o w hd hdB ho hg hP3 hl n _ hn hof hft.1 hft.2 i hi hb).mono ?_
        rintro e w' ⟨rfl, q⟩
        exact ⟨rfl, fun h => absurd h (show ¬ (6 : Int) = 0 by decide), Fr.below q, q.mono hBw⟩
      · have he : doSt ⟨P, l, now⟩ o = (gcode (Gof P[n] l o.who now o.n) (NLof P[n].p l (Gof P[n] l o.who now o.n)).length, gaddr (Gof P[n] l o.who now o.n) (NLof P[n].p l (Gof P[n] l o.who now o.n)).length, if gcode (Gof P[n] l o.who now o.n) (NLof P[n].p l (Gof P[n] l o.who now o.n)).length = 0 then ⟨P, NLof P[n].p l (Gof P[n] l o.who now o.n), now⟩ else zSta) := by
          unfold doSt; rw [if_neg (by omega), if_neg (by omega), if_pos hk]; simp only [hnn, List.getElem?_eq_getElem hn, hi, elseB, decide_eq_false hb, Bool.false_eq_true, if_false]
        rw [he]
        refine (dgrant_run db B a5 a6 c5 c6 P l now o w hd hdB ho hg hl (live_of hfr) n _ hn hof hft.1 hft.2 (.inr ⟨i, hi, by omega, by omega⟩) (Gof P[n] l o.who now o.n) rfl (NLof P[n].p l (Gof P[n] l o.who now o.n)) rfl).mono ?_
        rintro e w' ⟨rfl, q1, q2, q3⟩
        refine ⟨rfl, fun h => ?_, q2, q3⟩
        rw [if_pos h]
        exact ⟨rfl, q1 h⟩
  · have he : doSt ⟨P, l, now⟩ o = (5, zeroAd, zSta) := by
      unfold doSt; rw [if_neg (by omega), if_neg (by omega), if_pos hk]; simp only [hnn, List.getElem?_eq_none (Nat.le_of_not_lt hn)]
    rw [he]
    refine (dgrant_none db B a5 a6 c5 c6 P l now o w hd hdB ho hg hP3 hl (by omega)).mono ?_
    rintro e w' ⟨rfl, q⟩
    exact ⟨rfl, fun h => absurd h (show ¬ (5 : Int) = 0 by decide), Fr.below q, q.mono hBw⟩
end Go.Proofs.YtjainfehlbfiaaaGreat

namespace Go.Proofs.YtjainfehlbfiaaaGreat
open Go.RowKit

set_option maxHeartbeats 8000000 in
set_option maxRecDepth 100000 in
theorem dowalk1 (w : World) (db : Nat) (y1 : Bool) (y2 y3 y4 : Int) (y5 : Bool) (y6 y7 : Int) (y8 : ByteArray) (y9 y10 cd : Int) (Q : World → Prop)
    (hc : ∀ W : World, Below w.heap.size w W → Blk W (w.heap.size + 1) 29 [.bool false, .int .u64 0, .int .u64 0] → Calls Tryz.prog 51 #[.pointer (some ⟨db, 0, none⟩), .agg #[.bool y1, .int .u64 y2, .int .u64 y3, .int .i64 y4]] W fun e w' => e = .returned (.int .i64 cd) ∧ Blk w' (w.heap.size + 1) 29 [.bool false, .int .u64 0, .int .u64 0] ∧ Q w') :
    Calls Tryz.prog 41 #[.pointer (some ⟨db, 0, none⟩), .agg #[.int .i64 1, .bool y1, .int .u64 y2, .int .u64 y3, .int .i64 y4, .bool y5, .int .u64 y6, .int .u64 y7, .string y8, .int .i64 y9, .int .i64 y10]] w fun e w' => e = .returned (.tuple #[.agg #[.bool false, .int .u64 0, .int .u64 0], .int .i64 cd]) ∧ Q w' := by
  have HC := Lib.hid hc
  clear hc
  obtain ⟨W1, hW1⟩ : ∃ W1, W1 = ((w.alloc (.cells #[.int .i64 1, .bool y1, .int .u64 y2, .int .u64 y3, .int .i64 y4, .bool y5, .int .u64 y6, .int .u64 y7, .string y8, .int .i64 y9, .int .i64 y10] 33)).alloc (.cells #[.bool false, .int .u64 0, .int .u64 0] 29)) := ⟨_, rfl⟩
  have hb1 : Below w.heap.size w W1 := by rw [hW1]; exact bal (bal (Below.refl w.heap.size w) _) _
  have hOp : Blk W1 w.heap.size 33 [.int .i64 1, .bool y1, .int .u64 y2, .int .u64 y3, .int .i64 y4, .bool y5, .int .u64 y6, .int .u64 y7, .string y8, .int .i64 y9, .int .i64 y10] := by rw [hW1]; exact (Blk.new w _ _).below (bal (Below.refl _ _) _)
  have hX : Blk W1 (w.heap.size + 1) 29 [.bool false, .int .u64 0, .int .u64 0] := by
    rw [hW1]
    have := Blk.new (w.alloc (.cells #[.int .i64 1, .bool y1, .int .u64 y2, .int .u64 y3, .int .i64 y4, .bool y5, .int .u64 y6, .int .u64 y7, .string y8, .int .i64 y9, .int .i64 y10] 33)) [.bool false, .int .u64 0, .int .u64 0] 29
    rw [show (w.alloc (.cells #[.int .i64 1, .bool y1, .int .u64 y2, .int .u64 y3, .int .i64 y4, .bool y5, .int .u64 y6, .int .u64 y7, .string y8, .int .i64 y9, .int .i64 y10] 33)).heap.size = w.heap.size + 1 by simp] at this
    exact this
  have HB0 := Lib.hid hb1
  have HX0 := Lib.hid hX
  have o0 := hOp.cell 0 _ rfl
  have o1 := hOp.cell 1 _ rfl
  have o2 := hOp.cell 2 _ rfl
  have o3 := hOp.cell 3 _ rfl
  have o4 := hOp.cell 4 _ rfl
  rw [hW1] at HB0 HX0 o0 o1 o2 o3 o4
  clear hb1 hOp hX hW1 W1
  go_enter Tryz.func41, Tryz.ntmps41
  go_wp2_with fail
  refine (HC.out _ HB0.out HX0.out).mono ?_
  rintro e w2 ⟨rfl, hX2, hQ⟩
  obtain ⟨⟨m0, m1, m2⟩, m3, m4, m5⟩ := hX2.three
  have HQ := Lib.hid hQ
  have HX2 := Lib.hid hX2
  clear hX2 hQ HC HB0 HX0 o0 o1 o2 o3 o4
  go_wp2_with fail
  refine bodyPost_ret (v := .tuple #[.agg #[.bool false, .int .u64 0, .int .u64 0], .int .i64 cd]) ?_ rfl ⟨rfl, ?_⟩
  · simp [results, Tryz.results41, go_sem, m0, m1, m2]
  · rw [setCell_same HX2.out 0 _ rfl, setCell_same HX2.out 1 _ rfl, setCell_same HX2.out 2 _ rfl]; exact HQ.out
set_option maxHeartbeats 8000000 in
set_option maxRecDepth 100000 in
theorem dowalk2 (w : World) (db : Nat) (y1 : Bool) (y2 y3 y4 : Int) (y5 : Bool) (y6 y7 : Int) (y8 : ByteArray) (y9 y10 cd : Int) (Q : World → Prop)
    (hc : ∀ W : World, Below w.heap.size w W → Blk W (w.heap.size + 1) 29 [.bool false, .int .u64 0, .int .u64 0] → Calls Tryz.prog 52 #[.pointer (some ⟨db, 0, none⟩), .agg #[.bool y5, .int .u64 y6, .int .u64 y7]] W fun e w' => e = .returned (.int .i64 cd) ∧ Blk w' (w.heap.size + 1) 29 [.bool false, .int .u64 0, .int .u64 0] ∧ Q w') :
    Calls Tryz.prog 41 #[.pointer (some ⟨db, 0, none⟩), .agg #[.int .i64 2, .bool y1, .int .u64 y2, .int .u64 y3, .int .i64 y4, .bool y5, .int .u64 y6, .int .u64 y7, .string y8, .int .i64 y9, .int .i64 y10]] w fun e w' => e = .returned (.tuple #[.agg #[.bool false, .int .u64 0, .int .u64 0], .int .i64 cd]) ∧ Q w' := by
  have HC := Lib.hid hc
  clear hc
  obtain ⟨W1, hW1⟩ : ∃ W1, W1 = ((w.alloc (.cells #[.int .i64 2, .bool y1, .int .u64 y2, .int .u64 y3, .int .i64 y4, .bool y5, .int .u64 y6, .int .u64 y7, .string y8, .int .i64 y9, .int .i64 y10] 33)).alloc (.cells #[.bool false, .int .u64 0, .int .u64 0] 29)) := ⟨_, rfl⟩
  have hb1 : Below w.heap.size w W1 := by rw [hW1]; exact bal (bal (Below.refl w.heap.size w) _) _
  have hOp : Blk W1 w.heap.size 33 [.int .i64 2, .bool y1, .int .u64 y2, .int .u64 y3, .int .i64 y4, .bool y5, .int .u64 y6, .int .u64 y7, .string y8, .int .i64 y9, .int .i64 y10] := by rw [hW1]; exact (Blk.new w _ _).below (bal (Below.refl _ _) _)
  have hX : Blk W1 (w.heap.size + 1) 29 [.bool false, .int .u64 0, .int .u64 0] := by
    rw [hW1]
    have := Blk.new (w.alloc (.cells #[.int .i64 2, .bool y1, .int .u64 y2, .int .u64 y3, .int .i64 y4, .bool y5, .int .u64 y6, .int .u64 y7, .string y8, .int .i64 y9, .int .i64 y10] 33)) [.bool false, .int .u64 0, .int .u64 0] 29
    rw [show (w.alloc (.cells #[.int .i64 2, .bool y1, .int .u64 y2, .int .u64 y3, .int .i64 y4, .bool y5, .int .u64 y6, .int .u64 y7, .string y8, .int .i64 y9, .int .i64 y10] 33)).heap.size = w.heap.size + 1 by simp] at this
    exact this
  have HB0 := Lib.hid hb1
  have HX0 := Lib.hid hX
  have o0 := hOp.cell 0 _ rfl
  have o5 := hOp.cell 5 _ rfl
  have o6 := hOp.cell 6 _ rfl
  have o7 := hOp.cell 7 _ rfl
  rw [hW1] at HB0 HX0 o0 o5 o6 o7
  clear hb1 hOp hX hW1 W1
  go_enter Tryz.func41, Tryz.ntmps41
  go_wp2_with fail
  refine (HC.out _ HB0.out HX0.out).mono ?_
  rintro e w2 ⟨rfl, hX2, hQ⟩
  obtain ⟨⟨m0, m1, m2⟩, m3, m4, m5⟩ := hX2.three
  have HQ := Lib.hid hQ
  have HX2 := Lib.hid hX2
  clear hX2 hQ HC HB0 HX0 o0 o5 o6 o7
  go_wp2_with fail
  refine bodyPost_ret (v := .tuple #[.agg #[.bool false, .int .u64 0, .int .u64 0], .int .i64 cd]) ?_ rfl ⟨rfl, ?_⟩
  · simp [results, Tryz.results41, go_sem, m0, m1, m2]
  · rw [setCell_same HX2.out 0 _ rfl, setCell_same HX2.out 1 _ rfl, setCell_same HX2.out 2 _ rfl]; exact HQ.out
set_option maxHeartbeats 8000000 in
set_option maxRecDepth 100000 in
theorem dowalk5 (w : World) (db : Nat) (y1 : Bool) (y2 y3 y4 : Int) (y5 : Bool) (y6 y7 : Int) (y8 : ByteArray) (y9 y10 cd : Int) (Q : World → Prop)
    (hc : ∀ W : World, Below w.heap.size w W → Blk W (w.heap.size + 1) 29 [.bool false, .int .u64 0, .int .u64 0] → Calls Tryz.prog 55 #[.pointer (some ⟨db, 0, none⟩), .int .i64 y10] W fun e w' => e = .returned (.int .i64 cd) ∧ Blk w' (w.heap.size + 1) 29 [.bool false, .int .u64 0, .int .u64 0] ∧ Q w') :
    Calls Tryz.prog 41 #[.pointer (some ⟨db, 0, none⟩), .agg #[.int .i64 5, .bool y1, .int .u64 y2, .int .u64 y3, .int .i64 y4, .bool y5, .int .u64 y6, .int .u64 y7, .string y8, .int .i64 y9, .int .i64 y10]] w fun e w' => e = .returned (.tuple #[.agg #[.bool false, .int .u64 0, .int .u64 0], .int .i64 cd]) ∧ Q w' := by
  have HC := Lib.hid hc
  clear hc
  obtain ⟨W1, hW1⟩ : ∃ W1, W1 = ((w.alloc (.cells #[.int .i64 5, .bool y1, .int .u64 y2, .int .u64 y3, .int .i64 y4, .bool y5, .int .u64 y6, .int .u64 y7, .string y8, .int .i64 y9, .int .i64 y10] 33)).alloc (.cells #[.bool false, .int .u64 0, .int .u64 0] 29)) := ⟨_, rfl⟩
  have hb1 : Below w.heap.size w W1 := by rw [hW1]; exact bal (bal (Below.refl w.heap.size w) _) _
  have hOp : Blk W1 w.heap.size 33 [.int .i64 5, .bool y1, .int .u64 y2, .int .u64 y3, .int .i64 y4, .bool y5, .int .u64 y6, .int .u64 y7, .string y8, .int .i64 y9, .int .i64 y10] := by rw [hW1]; exact (Blk.new w _ _).below (bal (Below.refl _ _) _)
  have hX : Blk W1 (w.heap.size + 1) 29 [.bool false, .int .u64 0, .int .u64 0] := by
    rw [hW1]
    have := Blk.new (w.alloc (.cells #[.int .i64 5, .bool y1, .int .u64 y2, .int .u64 y3, .int .i64 y4, .bool y5, .int .u64 y6, .int .u64 y7, .string y8, .int .i64 y9, .int .i64 y10] 33)) [.bool false, .int .u64 0, .int .u64 0] 29
    rw [show (w.alloc (.cells #[.int .i64 5, .bool y1, .int .u64 y2, .int .u64 y3, .int .i64 y4, .bool y5, .int .u64 y6, .int .u64 y7, .string y8, .int .i64 y9, .int .i64 y10] 33)).heap.size = w.heap.size + 1 by simp] at this
    exact this
  have HB0 := Lib.hid hb1
  have HX0 := Lib.hid hX
  have o0 := hOp.cell 0 _ rfl
  have o10 := hOp.cell 10 _ rfl
  rw [hW1] at HB0 HX0 o0 o10
  clear hb1 hOp hX hW1 W1
  go_enter Tryz.func41, Tryz.ntmps41
  go_wp2_with fail
  refine (HC.out _ HB0.out HX0.out).mono ?_
  rintro e w2 ⟨rfl, hX2, hQ⟩
  obtain ⟨⟨m0, m1, m2⟩, m3, m4, m5⟩ := hX2.three
  have HQ := Lib.hid hQ
  have HX2 := Lib.hid hX2
  clear hX2 hQ HC HB0 HX0 o0 o10
  go_wp2_with fail
  refine bodyPost_ret (v := .tuple #[.agg #[.bool false, .int .u64 0, .int .u64 0], .int .i64 cd]) ?_ rfl ⟨rfl, ?_⟩
  · simp [results, Tryz.results41, go_sem, m0, m1, m2]
  · rw [setCell_same HX2.out 0 _ rfl, setCell_same HX2.out 1 _ rfl, setCell_same HX2.out 2 _ rfl]; exact HQ.out
set_option maxHeartbeats 8000000 in
set_option maxRecDepth 100000 in
theorem dowalk3 (w : World) (db : Nat) (y1 : Bool) (y2 y3 y4 : Int) (y5 : Bool) (y6 y7 : Int) (y8 : ByteArray) (y9 y10 cd : Int) (ov : Bool) (oh ol : Int) (Q : World → Prop)
    (hc : ∀ W : World, Below w.heap.size w W → Blk W (w.heap.size + 1) 29 [.bool false, .int .u64 0, .int .u64 0] → Calls Tryz.prog 53 #[.pointer (some ⟨db, 0, none⟩), .agg #[.int .i64 3, .bool y1, .int .u64 y2, .int .u64 y3, .int .i64 y4, .bool y5, .int .u64 y6, .int .u64 y7, .string y8, .int .i64 y9, .int .i64 y10]] W fun e w' => e = .returned (.tuple #[.agg #[.bool ov, .int .u64 oh, .int .u64 ol], .int .i64 cd]) ∧ Blk w' (w.heap.size + 1) 29 [.bool false, .int .u64 0, .int .u64 0] ∧ Q (((w'.setCell ⟨w.heap.size + 1, 0, none⟩ (.bool ov)).setCell ⟨w.heap.size + 1, 1, none⟩ (.int .u64 oh)).setCell ⟨w.heap.size + 1, 2, none⟩ (.int .u64 ol))) :
    Calls Tryz.prog 41 #[.pointer (some ⟨db, 0, none⟩), .agg #[.int .i64 3, .bool y1, .int .u64 y2, .int .u64 y3, .int .i64 y4, .bool y5, .int .u64 y6, .int .u64 y7, .string y8, .int .i64 y9, .int .i64 y10]] w fun e w' => e = .returned (.tuple #[.agg #[.bool ov, .int .u64 oh, .int .u64 ol], .int .i64 cd]) ∧ Q w' := by
  have HC := Lib.hid hc
  clear hc
  obtain ⟨W1, hW1⟩ : ∃ W1, W1 = ((w.alloc (.cells #[.int .i64 3, .bool y1, .int .u64 y2, .int .u64 y3, .int .i64 y4, .bool y5, .int .u64 y6, .int .u64 y7, .string y8, .int .i64 y9, .int .i64 y10] 33)).alloc (.cells #[.bool false, .int .u64 0, .int .u64 0] 29)) := ⟨_, rfl⟩
  have hb1 : Below w.heap.size w W1 := by rw [hW1]; exact bal (bal (Below.refl w.heap.size w) _) _
  have hOp : Blk W1 w.heap.size 33 [.int .i64 3, .bool y1, .int .u64 y2, .int .u64 y3, .int .i64 y4, .bool y5, .int .u64 y6, .int .u64 y7, .string y8, .int .i64 y9, .int .i64 y10] := by rw [hW1]; exact (Blk.new w _ _).below (bal (Below.refl _ _) _)
  have hX : Blk W1 (w.heap.size + 1) 29 [.bool false, .int .u64 0, .int .u64 0] := by
    rw [hW1]
    have := Blk.new (w.alloc (.cells #[.int .i64 3, .bool y1, .int .u64 y2, .int .u64 y3, .int .i64 y4, .bool y5, .int .u64 y6, .int .u64 y7, .string y8, .int .i64 y9, .int .i64 y10] 33)) [.bool false, .int .u64 0, .int .u64 0] 29
    rw [show (w.alloc (.cells #[.int .i64 3, .bool y1, .int .u64 y2, .int .u64 y3, .int .i64 y4, .bool y5, .int .u64 y6, .int .u64 y7, .string y8, .int .i64 y9, .int .i64 y10] 33)).heap.size = w.heap.size + 1 by simp] at this
    exact this
  have HB0 := Lib.hid hb1
  have HX0 := Lib.hid hX
  have o0 := hOp.cell 0 _ rfl
  have o1 := hOp.cell 1 _ rfl
  have o2 := hOp.cell 2 _ rfl
  have o3 := hOp.cell 3 _ rfl
  have o4 := hOp.cell 4 _ rfl
  have o5 := hOp.cell 5 _ rfl
  have o6 := hOp.cell 6 _ rfl
  have o7 := hOp.cell 7 _ rfl
  have o8 := hOp.cell 8 _ rfl
  have o9 := hOp.cell 9 _ rfl
  have o10 := hOp.cell 10 _ rfl
  rw [hW1] at HB0 HX0 o0 o1 o2 o3 o4 o5 o6 o7 o8 o9 o10
  clear hb1 hOp hX hW1 W1
  go_enter Tryz.func41, Tryz.ntmps41
  go_wp2_with fail
  refine (HC.out _ HB0.out HX0.out).mono ?_
  rintro e w2 ⟨rfl, hX2, hQ⟩
  obtain ⟨⟨m0, m1, m2⟩, m3, m4, m5⟩ := hX2.three
  have HQ := Lib.hid hQ
  have HX2 := Lib.hid hX2
  clear hX2 hQ HC HB0 HX0 o0 o1 o2 o3 o4 o5 o6 o7 o8 o9 o10
  go_wp2_with fail
  refine bodyPost_ret (v := .tuple #[.agg #[.bool ov, .int .u64 oh, .int .u64 ol], .int .i64 cd]) ?_ rfl ⟨rfl, ?_⟩
  · simp [results, Tryz.results41, go_sem, m0, m1, m2]
  · exact HQ.out
set_option maxHeartbeats 8000000 in
set_option maxRecDepth 100000 in
theorem dowalk4 (w : World) (db : Nat) (y1 : Bool) (y2 y3 y4 : Int) (y5 : Bool) (y6 y7 : Int) (y8 : ByteArray) (y9 y10 cd : Int) (ov : Bool) (oh ol : Int) (Q : World → Prop)
    (hc : ∀ W : World, Below w.heap.size w W → Blk W (w.heap.size + 1) 29 [.bool false, .int .u64 0, .int .u64 0] → Calls Tryz.prog 54 #[.pointer (some ⟨db, 0, none⟩), .string y8] W fun e w' => e = .returned (.tuple #[.agg #[.bool ov, .int .u64 oh, .int .u64 ol], .int .i64 cd]) ∧ Blk w' (w.heap.size + 1) 29 [.bool false, .int .u64 0, .int .u64 0] ∧ Q (((w'.setCell ⟨w.heap.size + 1, 0, none⟩ (.bool ov)).setCell ⟨w.heap.size + 1, 1, none⟩ (.int .u64 oh)).setCell ⟨w.heap.size + 1, 2, none⟩ (.int .u64 ol))) :
    Calls Tryz.prog 41 #[.pointer (some ⟨db, 0, none⟩), .agg #[.int .i64 4, .bool y1, .int .u64 y2, .int .u64 y3, .int .i64 y4, .bool y5, .int .u64 y6, .int .u64 y7, .string y8, .int .i64 y9, .int .i64 y10]] w fun e w' => e = .returned (.tuple #[.agg #[.bool ov, .int .u64 oh, .int .u64 ol], .int .i64 cd]) ∧ Q w' := by
  have HC := Lib.hid hc
  clear hc
  obtain ⟨W1, hW1⟩ : ∃ W1, W1 = ((w.alloc (.cells #[.int .i64 4, .bool y1, .int .u64 y2, .int .u64 y3, .int .i64 y4, .bool y5, .int .u64 y6, .int .u64 y7, .string y8, .int .i64 y9, .int .i64 y10] 33)).alloc (.cells #[.bool false, .int .u64 0, .int .u64 0] 29)) := ⟨_, rfl⟩
  have hb1 : Below w.heap.size w W1 := by rw [hW1]; exact bal (bal (Below.refl w.heap.size w) _) _
  have hOp : Blk W1 w.heap.size 33 [.int .i64 4, .bool y1, .int .u64 y2, .int .u64 y3, .int .i64 y4, .bool y5, .int .u64 y6, .int .u64 y7, .string y8, .int .i64 y9, .int .i64 y10] := by rw [hW1]; exact (Blk.new w _ _).below (bal (Below.refl _ _) _)
  have hX : Blk W1 (w.heap.size + 1) 29 [.bool false, .int .u64 0, .int .u64 0] := by
    rw [hW1]
    have := Blk.new (w.alloc (.cells #[.int .i64 4, .bool y1, .int .u64 y2, .int .u64 y3, .int .i64 y4, .bool y5, .int .u64 y6, .int .u64 y7, .string y8, .int .i64 y9, .int .i64 y10] 33)) [.bool false, .int .u64 0, .int .u64 0] 29
    rw [show (w.alloc (.cells #[.int .i64 4, .bool y1, .int .u64 y2, .int .u64 y3, .int .i64 y4, .bool y5, .int .u64 y6, .int .u64 y7, .string y8, .int .i64 y9, .int .i64 y10] 33)).heap.size = w.heap.size + 1 by simp] at this
    exact this
  have HB0 := Lib.hid hb1
  have HX0 := Lib.hid hX
  have o0 := hOp.cell 0 _ rfl
  have o8 := hOp.cell 8 _ rfl
  rw [hW1] at HB0 HX0 o0 o8
  clear hb1 hOp hX hW1 W1
  go_enter Tryz.func41, Tryz.ntmps41
  go_wp2_with fail
  refine (HC.out _ HB0.out HX0.out).mono ?_
  rintro e w2 ⟨rfl, hX2, hQ⟩
  obtain ⟨⟨m0, m1, m2⟩, m3, m4, m5⟩ := hX2.three
  have HQ := Lib.hid hQ
  have HX2 := Lib.hid hX2
  clear hX2 hQ HC HB0 HX0 o0 o8
  go_wp2_with fail
  refine bodyPost_ret (v := .tuple #[.agg #[.bool ov, .int .u64 oh, .int .u64 ol], .int .i64 cd]) ?_ rfl ⟨rfl, ?_⟩
  · simp [results, Tryz.results41, go_sem, m0, m1, m2]
  · exact HQ.out
theorem ddo_any (db B : Nat) (a5 a6 : Option Addr) (c5 c6 : Nat) (P : List Pl) (l : List Ls) (now : Int) (o : Opd) (w : World) (hd : Blk w db 94 [.slice a5 P.length c5, .slice a6 l.length c6, .int .i64 now]) (hdB : B ≤ db) (ho : OwnS w B (.slice a5 P.length c5) (.slice a6 l.length c6) P l) (hS : stateE P l now = 0) (hF : formE o = 0) :
    Calls Tryz.prog 41 #[.pointer (some ⟨db, 0, none⟩), .agg #[.int .i64 o.k, .bool o.p.v, .int .u64 o.p.hi, .int .u64 o.p.lo, .int .i64 o.p.b, .bool o.a.v, .int .u64 o.a.hi, .int .u64 o.a.lo, .string o.who, .int .i64 o.pof, .int .i64 o.n]] w fun e w' => e = .returned (.tuple #[.agg #[.bool (doSt ⟨P, l, now⟩ o).2.1.v, .int .u64 (doSt ⟨P, l, now⟩ o).2.1.hi, .int .u64 (doSt ⟨P, l, now⟩ o).2.1.lo], .int .i64 (doSt ⟨P, l, now⟩ o).1]) ∧ Made w' db B (doSt ⟨P, l, now⟩ o).1 (doSt ⟨P, l, now⟩ o).2.2 ∧ Below B w w' := by
  have hBw : B ≤ w.heap.size := Nat.le_trans hdB (Nat.le_of_lt hd.lt)
  have hdl := hd.lt
  have hdx : db ≠ w.heap.size + 1 := by omega
  have n1 : (Value.slice a5 P.length c5).ownBlock ≠ some (w.heap.size + 1) := fun e => by have := (ho.pools.lt _ e).2; omega
  have n2 : (Value.slice a6 l.length c6).ownBlock ≠ some (w.heap.size + 1) := fun e => by have := (ho.leases.lt _ e).2; omega
  have n3 : ∀ x ∈ P, x.v.ownBlock ≠ some (w.heap.size + 1) := fun x hx e => by have := ((ho.kept x hx).lt _ e).2; omega
  have hk : o.k = 1 ∨ o.k = 2 ∨ o.k = 3 ∨ o.k = 4 ∨ o.k = 5 := by
    unfold formE at hF
    by_cases h : o.k < 1 ∨ 5 < o.k
    · rw [if_pos h] at hF; exact absurd hF (by decide)
    · omega
  have lift2 : ∀ (W w' : World), Below w.heap.size w W → Blk W (w.heap.size + 1) 29 [.bool false, .int .u64 0, .int .u64 0] → Made2 w' db B (.slice a5 P.length c5) P (doSt ⟨P, l, now⟩ o).1 (doSt ⟨P, l, now⟩ o).2.2 → Fr W w' db (.slice a5 P.length c5) (.slice a6 l.length c6) P → Below B W w' → ∀ u0 u1 u2 : Value, Blk w' (w.heap.size + 1) 29 [.bool false, .int .u64 0, .int .u64 0] ∧ Made (((w'.setCell ⟨w.heap.size + 1, 0, none⟩ u0).setCell ⟨w.heap.size + 1, 1, none⟩ u1).setCell ⟨w.heap.size + 1, 2, none⟩ u2) db B (doSt ⟨P, l, now⟩ o).1 (doSt ⟨P, l, now⟩ o).2.2 ∧ Below B w (((w'.setCell ⟨w.heap.size + 1, 0, none⟩ u0).setCell ⟨w.heap.size + 1, 1, none⟩ u1).setCell ⟨w.heap.size + 1, 2, none⟩ u2) := by
    intro W w' hW hX q1 q2 q3 u0 u1 u2
    have hX' : Blk w' (w.heap.size + 1) 29 [.bool false, .int .u64 0, .int .u64 0] := (q2 _ hX.lt hdx.symm n1 n2 n3).trans hX
    refine ⟨hX', fun h => ?_, ?_⟩
    · obtain ⟨ha, vL, r1, r2⟩ := q1 h
      have n4 : vL.ownBlock ≠ some (w.heap.size + 1) := own_ne_blk r2.leases hX' (by decide)
      exact ⟨_, vL, P, ((r1.other hdx _).other hdx _).other hdx _, ((r2.cell n1 n4 n3 0 _).cell n1 n4 n3 1 _).cell n1 n4 n3 2 _, ha⟩
    · exact ((((hW.mono hBw).trans q3).setCell (by show B ≤ w.heap.size + 1; omega) _).setCell (by show B ≤ w.heap.size + 1; omega) _).setCell (by show B ≤ w.heap.size + 1; omega) _
  have z : ∀ (h : o.k = 1 ∨ o.k = 2 ∨ o.k = 5), (doSt ⟨P, l, now⟩ o).2.1 = zeroAd := by
    intro h
    unfold doSt
    rcases h with h | h | h
    · rw [if_pos h]; split <;> rfl
    · rw [if_neg (by omega), if_pos h]
      split
      · rfl
      · split
        · rfl
        · split <;> rfl
    · rw [if_neg (by omega), if_neg (by omega), if_neg (by omega), if_neg (by omega)]; split <;> rfl
  rcases hk with hk | hk | hk | hk | hk
  · rw [z (.inl hk)]
    rw [hk]
    refine dowalk1 w db _ _ _ _ _ _ _ _ _ _ _ _ fun W hW hX => ?_
    refine (run1 db B a5 a6 c5 c6 P l now o W (hd.below hW) hdB (ho.keep hW) hS hF hk).mono ?_
    rintro e w' ⟨rfl, q1, q2, q3⟩
    exact ⟨rfl, (q2 _ hX.lt hdx.symm n1 n2 n3).trans hX, q1, (hW.mono hBw).trans q3⟩
  · rw [z (.inr (.inl hk))]
    rw [hk]
    refine dowalk2 w db _ _ _ _ _ _ _ _ _ _ _ _ fun W hW hX => ?_
    refine (run2 db B a5 a6 c5 c6 P l now o W (hd.below hW) hdB (ho.keep hW) hS hF hk).mono ?_
    rintro e w' ⟨rfl, q1, q2, q3⟩
    exact ⟨rfl, (q2 _ hX.lt hdx.symm n1 n2 n3).trans hX, q1, (hW.mono hBw).trans q3⟩
  · have hw := run3 db B a5 a6 c5 c6 P l now o
    rw [hk] at hw ⊢
    refine dowalk3 w db _ _ _ _ _ _ _ _ _ _ _ _ _ _ _ fun W hW hX => ?_
    refine (hw W (hd.below hW) hdB (ho.keep hW) hS hF rfl).mono ?_
    rintro e w' ⟨rfl, q1, q2, q3⟩
    have := lift2 W w' hW hX q1 q2 q3
    exact ⟨rfl, (this (.bool false) (.bool false) (.bool false)).1, (this _ _ _).2⟩
  · rw [hk]
    refine dowalk4 w db _ _ _ _ _ _ _ _ _ _ _ _ _ _ _ fun W hW hX => ?_
    refine (run4 db B a5 a6 c5 c6 P l now o W (hd.below hW) hdB (ho.keep hW) hS hF hk).mono ?_
    rintro e w' ⟨rfl, q1, q2, q3⟩
    have := lift2 W w' hW hX q1 q2 q3
    exact ⟨rfl, (this (.bool false) (.bool false) (.bool false)).1, (this _ _ _).2⟩
  · rw [z (.inr (.inr hk))]
    rw [hk]
    refine dowalk5 w db _ _ _ _ _ _ _ _ _ _ _ _ fun W hW hX => ?_
    refine (run5 db B a5 a6 c5 c6 P l now o W (hd.below hW) hdB (ho.keep hW) hS hF hk).mono ?_
    rintro e w' ⟨rfl, q1, q2, q3⟩
    exact ⟨rfl, (q2 _ hX.lt hdx.symm n1 n2 n3).trans hX, q1, (hW.mono hBw).trans q3⟩
end Go.Proofs.YtjainfehlbfiaaaGreat

namespace Go.Proofs.YtjainfehlbfiaaaGreat
open Go.RowKit

/-- What an op makes of any state. -/
def doAll (S : Sta) (o : Opd) : Int × Ad × Sta := if stateE S.P S.l S.now = 0 then (if formE o = 0 then doSt S o else (formE o, zeroAd, zSta)) else (stateE S.P S.l S.now, zeroAd, zSta)
theorem doSt_bad (S : Sta) (o : Opd) (h : ¬ (doSt S o).1 = 0) : (doSt S o).2.1 = zeroAd ∧ (doSt S o).2.2 = zSta := by
  unfold doSt at h ⊢
  split
  · split
    · rename_i h1 h2; rw [if_pos h1, if_pos h2] at h; exact absurd rfl h
    · exact ⟨rfl, rfl⟩
  · rename_i h1
    rw [if_neg h1] at h
    split
    · rename_i h2
      rw [if_pos h2] at h
      split
      · exact ⟨rfl, rfl⟩
      · rename_i n hn
        rw [hn] at h
        simp only at h
        split
        · exact ⟨rfl, rfl⟩
        · rename_i y hy
          rw [hy] at h
          simp only at h
          split
          · rename_i h3; rw [if_pos h3] at h; exact absurd rfl h
          · exact ⟨rfl, rfl⟩
    · rename_i h2
      rw [if_neg h2] at h
      split
      · rename_i h3
        rw [if_pos h3] at h
        split
        · exact ⟨rfl, rfl⟩
        · rename_i y hy
          rw [hy] at h
          simp only at h
          split
          · exact ⟨rfl, rfl⟩
          · rename_i h4
            rw [if_neg h4] at h
            refine ⟨?_, ?_⟩
            · show gaddr _ _ = _
              unfold gaddr
              rw [if_neg h]
            · show (if _ then _ else _) = _
              rw [if_neg h]
      · rename_i h3
        rw [if_neg h3] at h
        split
        · rename_i h4
          rw [if_pos h4] at h
          split
          · exact ⟨rfl, rfl⟩
          · rename_i n hn
            rw [hn] at h
            simp only at h
            split
            · exact ⟨rfl, rfl⟩
            · rename_i y hy
              rw [hy] at h
              exact absurd rfl h
        · rename_i h4
          rw [if_neg h4] at h
          split
          · exact ⟨rfl, rfl⟩
          · rename_i h5; rw [if_neg h5] at h; exact absurd rfl h
theorem ownR_nil (w : World) (B : Nat) : OwnR w B (.slice none 0 0) (.slice none 0 0) [] [] := ⟨World.ownsRow_nil _ _ _ _, World.ownsRow_nil _ _ _ _, fun x hx => by cases hx⟩
/-- The boxes of Do. -/
structure DoBox (w W : World) (sv ov rs ra : List Value) : Prop where
  below : Below w.heap.size w W
  s : Blk W w.heap.size 55 sv
  o : Blk W (w.heap.size + 1) 33 ov
  r : Blk W (w.heap.size + 2) 55 rs
  a : Blk W (w.heap.size + 3) 29 ra
theorem DoBox.keep {w W W' : World} {sv ov rs ra : List Value} (h : DoBox w W sv ov rs ra) (hb : Below W.heap.size W W') : DoBox w W' sv ov rs ra := ⟨btr h.below hb, h.s.below hb, h.o.below hb, h.r.below hb, h.a.below hb⟩
theorem DoBox.upto {w W W' : World} {B : Nat} {sv ov rs ra : List Value} (h : DoBox w W sv ov rs ra) (hB : w.heap.size + 4 ≤ B) (hb : Below B W W') : DoBox w W' sv ov rs ra := ⟨h.below.trans (hb.mono (by omega)), h.s.upto (by omega) hb, h.o.upto (by omega) hb, h.r.upto (by omega) hb, h.a.upto (by omega) hb⟩
theorem doBox (w : World) (sv ov rs ra : List Value) : DoBox w ((((w.alloc (.cells sv.toArray 55)).alloc (.cells ov.toArray 33)).alloc (.cells rs.toArray 55)).alloc (.cells ra.toArray 29)) sv ov rs ra := by
  have h1 := Blk.new w sv 55
  have h2 := Blk.new (w.alloc (.cells sv.toArray 55)) ov 33
  have h3 := Blk.new ((w.alloc (.cells sv.toArray 55)).alloc (.cells ov.toArray 33)) rs 55
  have h4 := Blk.new (((w.alloc (.cells sv.toArray 55)).alloc (.cells ov.toArray 33)).alloc (.cells rs.toArray 55)) ra 29
  have e1 : (w.alloc (.cells sv.toArray 55)).heap.size = w.heap.size + 1 := by simp
  have e2 : ((w.alloc (.cells sv.toArray 55)).alloc (.cells ov.toArray 33)).heap.size = w.heap.size + 2 := by simp
  have e3 : (((w.alloc (.cells sv.toArray 55)).alloc (.cells ov.toArray 33)).alloc (.cells rs.toArray 55)).heap.size = w.heap.size + 3 := by simp
  rw [e1] at h2; rw [e2] at h3; rw [e3] at h4
  exact ⟨bal (bal (bal (bal (Below.refl _ _) _) _) _) _, ((h1.below (bal (Below.refl _ _) _)).below (bal (Below.refl _ _) _)).below (bal (Below.refl _ _) _), (h2.below (bal (Below.refl _ _) _)).below (bal (Below.refl _ _) _), h3.below (bal (Below.refl _ _) _), h4⟩
set_option maxHeartbeats 16000000 in
set_option maxRecDepth 100000 in
theorem sdo_bad1 (w : World) (aP aL : Option Addr) (PN cP LN cL : Nat) (now y0 : Int) (y1 : Bool) (y2 y3 y4 : Int) (y5 : Bool) (y6 y7 : Int) (y8 : ByteArray) (y9 y10 c : Int) (hc0 : ¬ c = 0)
    (H1 : ∀ W : World, Below w.heap.size w W → Calls Tryz.prog 39 #[.agg #[.slice aP PN cP, .slice aL LN cL, .int .i64 now]] W fun e w' => e = .returned (.int .i64 c) ∧ Below W.heap.size W w') :
    Calls Tryz.prog 32 #[.agg #[.slice aP PN cP, .slice aL LN cL, .int .i64 now], .agg #[.int .i64 y0, .bool y1, .int .u64 y2, .int .u64 y3, .int .i64 y4, .bool y5, .int .u64 y6, .int .u64 y7, .string y8, .int .i64 y9, .int .i64 y10]] w fun e w' => e = .returned (.tuple #[.agg #[.slice none 0 0, .slice none 0 0, .int .i64 0], .agg #[.bool false, .int .u64 0, .int .u64 0], .int .i64 c]) ∧ Below w.heap.size w w' := by
  have HC1 := Lib.hid H1
  clear H1
  have hI : (c != 0) = true := by rw [bne_iff_ne]; exact hc0
  have HB0 : Hid (DoBox w ((((w.alloc (.cells #[.slice aP PN cP, .slice aL LN cL, .int .i64 now] 55)).alloc (.cells #[.int .i64 y0, .bool y1, .int .u64 y2, .int .u64 y3, .int .i64 y4, .bool y5, .int .u64 y6, .int .u64 y7, .string y8, .int .i64 y9, .int .i64 y10] 33)).alloc (.cells #[.slice none 0 0, .slice none 0 0, .int .i64 0] 55)).alloc (.cells #[.bool false, .int .u64 0, .int .u64 0] 29)) [.slice aP PN cP, .slice aL LN cL, .int .i64 now] [.int .i64 y0, .bool y1, .int .u64 y2, .int .u64 y3, .int .i64 y4, .bool y5, .int .u64 y6, .int .u64 y7, .string y8, .int .i64 y9, .int .i64 y10] [.slice none 0 0, .slice none 0 0, .int .i64 0] [.bool false, .int .u64 0, .int .u64 0]) := doBox w _ _ _ _
  obtain ⟨⟨s0, s1, s2⟩, -⟩ := HB0.out.s.three
  go_enter Tryz.func32, Tryz.ntmps32
  go_wp2_with fail
  refine (HC1.out _ HB0.out.below).mono ?_
  rintro e w1 ⟨rfl, hb1⟩
  have HB1 := Lib.hid (HB0.out.keep hb1)
  clear hb1 HB0 HC1 s0 s1 s2
  obtain ⟨⟨r0, r1, r2⟩, r3, r4, r5⟩ := HB1.out.r.three
  obtain ⟨⟨a0, a1, a2⟩, a3, a4, a5⟩ := HB1.out.a.three
  go_wp2_with fail
  refine bodyPost_ret (v := .tuple #[.agg #[.slice none 0 0, .slice none 0 0, .int .i64 0], .agg #[.bool false, .int .u64 0, .int .u64 0], .int .i64 c]) ?_ rfl ⟨rfl, ?_⟩
  · simp [results, Tryz.results32, go_sem, r0, r1, r2, a0, a1, a2]
  · (repeat' (first | with_reducible exact HB1.out.below | with_reducible refine bse ?_ (by first | (simp; done) | (simp; omega) | (show _ ≤ _; omega)) _))
set_option maxHeartbeats 16000000 in
set_option maxRecDepth 100000 in
theorem sdo_bad2 (w : World) (aP aL : Option Addr) (PN cP LN cL : Nat) (now y0 : Int) (y1 : Bool) (y2 y3 y4 : Int) (y5 : Bool) (y6 y7 : Int) (y8 : ByteArray) (y9 y10 c : Int) (hc0 : ¬ c = 0)
    (H1 : ∀ W : World, Below w.heap.size w W → Calls Tryz.prog 39 #[.agg #[.slice aP PN cP, .slice aL LN cL, .int .i64 now]] W fun e w' => e = .returned (.int .i64 0) ∧ Below W.heap.size W w')
    (H2 : ∀ W : World, Calls Tryz.prog 31 #[.agg #[.int .i64 y0, .bool y1, .int .u64 y2, .int .u64 y3, .int .i64 y4, .bool y5, .int .u64 y6, .int .u64 y7, .string y8, .int .i64 y9, .int .i64 y10]] W fun e w' => e = .returned (.int .i64 c) ∧ Below W.heap.size W w') :
    Calls Tryz.prog 32 #[.agg #[.slice aP PN cP, .slice aL LN cL, .int .i64 now], .agg #[.int .i64 y0, .bool y1, .int .u64 y2, .int .u64 y3, .int .i64 y4, .bool y5, .int .u64 y6, .int .u64 y7, .string y8, .int .i64 y9, .int .i64 y10]] w fun e w' => e = .returned (.tuple #[.agg #[.slice none 0 0, .slice none 0 0, .int .i64 0], .agg #[.bool false, .int .u64 0, .int .u64 0], .int .i64 c]) ∧ Below w.heap.size w w' := by
  have HC1 := Lib.hid H1
  have HC2 := Lib.hid H2
  clear H1 H2
  have hI : (c != 0) = true := by rw [bne_iff_ne]; exact hc0
  have HB0 : Hid (DoBox w ((((w.alloc (.cells #[.slice aP PN cP, .slice aL LN cL, .int .i64 now] 55)).alloc (.cells #[.int .i64 y0, .bool y1, .int .u64 y2, .int .u64 y3, .int .i64 y4, .bool y5, .int .u64 y6, .int .u64 y7, .string y8, .int .i64 y9, .int .i64 y10] 33)).alloc (.cells #[.slice none 0 0, .slice none 0 0, .int .i64 0] 55)).alloc (.cells #[.bool false, .int .u64 0, .int .u64 0] 29)) [.slice aP PN cP, .slice aL LN cL, .int .i64 now] [.int .i64 y0, .bool y1, .int .u64 y2, .int .u64 y3, .int .i64 y4, .bool y5, .int .u64 y6, .int .u64 y7, .string y8, .int .i64 y9, .int .i64 y10] [.slice none 0 0, .slice none 0 0, .int .i64 0] [.bool false, .int .u64 0, .int .u64 0]) := doBox w _ _ _ _
  obtain ⟨⟨s0, s1, s2⟩, -⟩ := HB0.out.s.three
  go_enter Tryz.func32, Tryz.ntmps32
  go_wp2_with fail
  refine (HC1.out _ HB0.out.below).mono ?_
  rintro e w1 ⟨rfl, hb1⟩
  have HB1 := Lib.hid (HB0.out.keep hb1)
  clear hb1 HB0 HC1 s0 s1 s2
  have o0 := HB1.out.o.cell 0 _ rfl
  have o1 := HB1.out.o.cell 1 _ rfl
  have o2 := HB1.out.o.cell 2 _ rfl
  have o3 := HB1.out.o.cell 3 _ rfl
  have o4 := HB1.out.o.cell 4 _ rfl
  have o5 := HB1.out.o.cell 5 _ rfl
  have o6 := HB1.out.o.cell 6 _ rfl
  have o7 := HB1.out.o.cell 7 _ rfl
  have o8 := HB1.out.o.cell 8 _ rfl
  have o9 := HB1.out.o.cell 9 _ rfl
  have o10 := HB1.out.o.cell 10 _ rfl
  go_wp2_with fail
  refine (HC2.out _).mono ?_
  rintro e w2 ⟨rfl, hb2⟩
  have HB2 := Lib.hid (HB1.out.keep hb2)
  clear hb2 HB1 HC2 o0 o1 o2 o3 o4 o5 o6 o7 o8 o9 o10
  obtain ⟨⟨r0, r1, r2⟩, r3, r4, r5⟩ := HB2.out.r.three
  obtain ⟨⟨a0, a1, a2⟩, a3, a4, a5⟩ := HB2.out.a.three
  go_wp2_with fail
  refine bodyPost_ret (v := .tuple #[.agg #[.slice none 0 0, .slice none 0 0, .int .i64 0], .agg #[.bool false, .int .u64 0, .int .u64 0], .int .i64 c]) ?_ rfl ⟨rfl, ?_⟩
  · simp [results, Tryz.results32, go_sem, r0, r1, r2, a0, a1, a2]
  · (repeat' (first | with_reducible exact HB2.out.below | with_reducible refine bse ?_ (by first | (simp; done) | (simp; omega) | (show _ ≤ _; omega)) _))
end Go.Proofs.YtjainfehlbfiaaaGreat

namespace Go.Proofs.YtjainfehlbfiaaaGreat
open Go.RowKit

set_option maxHeartbeats 16000000 in
set_option maxRecDepth 100000 in
theorem sdo_bad3 (w : World) (aP aL : Option Addr) (PN cP LN cL : Nat) (now y0 : Int) (y1 : Bool) (y2 y3 y4 : Int) (y5 : Bool) (y6 y7 : Int) (y8 : ByteArray) (y9 y10 cd : Int) (ov : Bool) (oh ol now' : Int) (HO Q : Nat → World → Value → Value → Prop) (hcd : ¬ cd = 0) (hz : ov = false ∧ oh = 0 ∧ ol = 0)
    (H1 : ∀ W : World, Below w.heap.size w W → Calls Tryz.prog 39 #[.agg #[.slice aP PN cP, .slice aL LN cL, .int .i64 now]] W fun e w' => e = .returned (.int .i64 0) ∧ Below W.heap.size W w')
    (H2 : ∀ W : World, Calls Tryz.prog 31 #[.agg #[.int .i64 y0, .bool y1, .int .u64 y2, .int .u64 y3, .int .i64 y4, .bool y5, .int .u64 y6, .int .u64 y7, .string y8, .int .i64 y9, .int .i64 y10]] W fun e w' => e = .returned (.int .i64 0) ∧ Below W.heap.size W w')
    (H3 : ∀ W : World, Below w.heap.size w W → Calls Tryz.prog 40 #[.agg #[.slice aP PN cP, .slice aL LN cL, .int .i64 now]] W fun e w' => ∃ (a5 a6 : Option Addr) (n5 c5 n6 c6 : Nat), e = .returned (.agg #[.slice a5 n5 c5, .slice a6 n6 c6, .int .i64 now]) ∧ HO W.heap.size w' (.slice a5 n5 c5) (.slice a6 n6 c6) ∧ Below W.heap.size W w')
    (HK : ∀ (B : Nat) (W W' : World) (vP vL : Value), HO B W vP vL → Below W.heap.size W W' → HO B W' vP vL)
    (H4 : ∀ (W : World) (db B : Nat) (vP vL : Value), B ≤ db → HO B W vP vL → Blk W db 94 [vP, vL, .int .i64 now] → Calls Tryz.prog 41 #[.pointer (some ⟨db, 0, none⟩), .agg #[.int .i64 y0, .bool y1, .int .u64 y2, .int .u64 y3, .int .i64 y4, .bool y5, .int .u64 y6, .int .u64 y7, .string y8, .int .i64 y9, .int .i64 y10]] W fun e w' => e = .returned (.tuple #[.agg #[.bool ov, .int .u64 oh, .int .u64 ol], .int .i64 cd]) ∧ (cd = 0 → ∃ (a5 a6 : Option Addr) (n5 c5 n6 c6 : Nat), Blk w' db 94 [.slice a5 n5 c5, .slice a6 n6 c6, .int .i64 now'] ∧ Q B w' (.slice a5 n5 c5) (.slice a6 n6 c6)) ∧ Below B W w')
    (HQ : ∀ (B : Nat) (W : World) (vP vL : Value), Q B W vP vL → (∀ o : Obj, Q B (W.alloc o) vP vL) ∧ Q B W.drew vP vL ∧ ∀ (b j : Nat) (u : Value), b < B → Q B (W.setCell ⟨b, j, none⟩ u) vP vL) :
    Calls Tryz.prog 32 #[.agg #[.slice aP PN cP, .slice aL LN cL, .int .i64 now], .agg #[.int .i64 y0, .bool y1, .int .u64 y2, .int .u64 y3, .int .i64 y4, .bool y5, .int .u64 y6, .int .u64 y7, .string y8, .int .i64 y9, .int .i64 y10]] w fun e w' => e = .returned (.tuple #[.agg #[.slice none 0 0, .slice none 0 0, .int .i64 0], .agg #[.bool false, .int .u64 0, .int .u64 0], .int .i64 cd]) ∧ Below w.heap.size w w' := by
  have HC1 := Lib.hid H1
  have HC2 := Lib.hid H2
  have HC3 := Lib.hid H3
  have HC4 := Lib.hid H4
  have HKK := Lib.hid HK
  have HQQ := Lib.hid HQ
  clear H1 H2 H3 H4 HK HQ
  have HB0 : Hid (DoBox w ((((w.alloc (.cells #[.slice aP PN cP, .slice aL LN cL, .int .i64 now] 55)).alloc (.cells #[.int .i64 y0, .bool y1, .int .u64 y2, .int .u64 y3, .int .i64 y4, .bool y5, .int .u64 y6, .int .u64 y7, .string y8, .int .i64 y9, .int .i64 y10] 33)).alloc (.cells #[.slice none 0 0, .slice none 0 0, .int .i64 0] 55)).alloc (.cells #[.bool false, .int .u64 0, .int .u64 0] 29)) [.slice aP PN cP, .slice aL LN cL, .int .i64 now] [.int .i64 y0, .bool y1, .int .u64 y2, .int .u64 y3, .int .i64 y4, .bool y5, .int .u64 y6, .int .u64 y7, .string y8, .int .i64 y9, .int .i64 y10] [.slice none 0 0, .slice none 0 0, .int .i64 0] [.bool false, .int .u64 0, .int .u64 0]) := doBox w _ _ _ _
  obtain ⟨⟨s0, s1, s2⟩, -⟩ := HB0.out.s.three
  go_enter Tryz.func32, Tryz.ntmps32
  go_wp2_with fail
  refine (HC1.out _ HB0.out.below).mono ?_
  rintro e w1 ⟨rfl, hb1⟩
  have HB1 := Lib.hid (HB0.out.keep hb1)
  clear hb1 HB0 HC1 s0 s1 s2
  have o0 := HB1.out.o.cell 0 _ rfl
  have o1 := HB1.out.o.cell 1 _ rfl
  have o2 := HB1.out.o.cell 2 _ rfl
  have o3 := HB1.out.o.cell 3 _ rfl
  have o4 := HB1.out.o.cell 4 _ rfl
  have o5 := HB1.out.o.cell 5 _ rfl
  have o6 := HB1.out.o.cell 6 _ rfl
  have o7 := HB1.out.o.cell 7 _ rfl
  have o8 := HB1.out.o.cell 8 _ rfl
  have o9 := HB1.out.o.cell 9 _ rfl
  have o10 := HB1.out.o.cell 10 _ rfl
  go_wp2_with fail
  refine (HC2.out _).mono ?_
  rintro e w2 ⟨rfl, hb2⟩
  have HB2 := Lib.hid (HB1.out.keep hb2)
  clear hb2 HB1 HC2 o0 o1 o2 o3 o4 o5 o6 o7 o8 o9 o10
  obtain ⟨⟨s0, s1, s2⟩, -⟩ := HB2.out.s.three
  go_wp2_with fail
  refine (HC3.out _ HB2.out.below).mono ?_
  rintro e w3 ⟨a5, a6, n5, c5, n6, c6, rfl, hO, hb3⟩
  have HB3 := Lib.hid (HB2.out.keep hb3)
  have hw3 := hb3.size
  have hw2 := HB2.out.a.lt
  clear hb3 HC3 s0 s1 s2
  have HO3 := Lib.hid (HKK.out _ _ _ _ _ hO (bal (Below.refl _ _) (.cells #[.slice a5 n5 c5, .slice a6 n6 c6, .int .i64 now] 94)))
  have HD3 : Hid (Blk (w3.alloc (.cells #[.slice a5 n5 c5, .slice a6 n6 c6, .int .i64 now] 94)) w3.heap.size 94 [.slice a5 n5 c5, .slice a6 n6 c6, .int .i64 now]) := Blk.new w3 _ _
  have HB4 := Lib.hid (HB3.out.keep (bal (Below.refl _ _) (.cells #[.slice a5 n5 c5, .slice a6 n6 c6, .int .i64 now] 94)))
  clear hO HKK
  have o0 := HB4.out.o.cell 0 _ rfl
  have o1 := HB4.out.o.cell 1 _ rfl
  have o2 := HB4.out.o.cell 2 _ rfl
  have o3 := HB4.out.o.cell 3 _ rfl
  have o4 := HB4.out.o.cell 4 _ rfl
  have o5 := HB4.out.o.cell 5 _ rfl
  have o6 := HB4.out.o.cell 6 _ rfl
  have o7 := HB4.out.o.cell 7 _ rfl
  have o8 := HB4.out.o.cell 8 _ rfl
  have o9 := HB4.out.o.cell 9 _ rfl
  have o10 := HB4.out.o.cell 10 _ rfl
  go_wp2_with fail
  refine (HC4.out _ _ _ _ _ hw3 HO3.out HD3.out).mono ?_
  rintro e w4 ⟨rfl, hQ4, hb4⟩
  have HB5 := Lib.hid (HB4.out.upto hw2 hb4)
  clear hb4 HC4 HO3 HB4 HB3 HB2 o0 o1 o2 o3 o4 o5 o6 o7 o8 o9 o10
  obtain ⟨rfl, rfl, rfl⟩ := hz
  have hI : (cd != 0) = true := by rw [bne_iff_ne]; exact hcd
  have HB6 := Lib.hid (HB5.out.keep (bal (Below.refl _ _) (.cells #[.bool false, .int .u64 0, .int .u64 0] 29)))
  clear hQ4 HQQ hcd HD3 hw3 hw2
  obtain ⟨⟨r0, r1, r2⟩, r3, r4, r5⟩ := HB6.out.r.three
  obtain ⟨⟨a0, a1, a2⟩, a3, a4, a5⟩ := HB6.out.a.three
  go_wp2_with fail
  refine bodyPost_ret (v := .tuple #[.agg #[.slice none 0 0, .slice none 0 0, .int .i64 0], .agg #[.bool false, .int .u64 0, .int .u64 0], .int .i64 cd]) ?_ rfl ⟨rfl, ?_⟩
  · simp [results, Tryz.results32, go_sem, r0, r1, r2, a0, a1, a2]
  · (repeat' (first | with_reducible exact HB6.out.below | with_reducible refine bse ?_ (by first | (simp; done) | (simp; omega) | (show _ ≤ _; omega)) _))
set_option maxHeartbeats 16000000 in
set_option maxRecDepth 100000 in
theorem sdo_ok (w : World) (aP aL : Option Addr) (PN cP LN cL : Nat) (now y0 : Int) (y1 : Bool) (y2 y3 y4 : Int) (y5 : Bool) (y6 y7 : Int) (y8 : ByteArray) (y9 y10 cd : Int) (ov : Bool) (oh ol now' : Int) (HO Q : Nat → World → Value → Value → Prop) (hcd : cd = 0)
    (H1 : ∀ W : World, Below w.heap.size w W → Calls Tryz.prog 39 #[.agg #[.slice aP PN cP, .slice aL LN cL, .int .i64 now]] W fun e w' => e = .returned (.int .i64 0) ∧ Below W.heap.size W w')
    (H2 : ∀ W : World, Calls Tryz.prog 31 #[.agg #[.int .i64 y0, .bool y1, .int .u64 y2, .int .u64 y3, .int .i64 y4, .bool y5, .int .u64 y6, .int .u64 y7, .string y8, .int .i64 y9, .int .i64 y10]] W fun e w' => e = .returned (.int .i64 0) ∧ Below W.heap.size W w')
    (H3 : ∀ W : World, Below w.heap.size w W → Calls Tryz.prog 40 #[.agg #[.slice aP PN cP, .slice aL LN cL, .int .i64 now]] W fun e w' => ∃ (a5 a6 : Option Addr) (n5 c5 n6 c6 : Nat), e = .returned (.agg #[.slice a5 n5 c5, .slice a6 n6 c6, .int .i64 now]) ∧ HO W.heap.size w' (.slice a5 n5 c5) (.slice a6 n6 c6) ∧ Below W.heap.size W w')
    (HK : ∀ (B : Nat) (W W' : World) (vP vL : Value), HO B W vP vL → Below W.heap.size W W' → HO B W' vP vL)
    (H4 : ∀ (W : World) (db B : Nat) (vP vL : Value), B ≤ db → HO B W vP vL → Blk W db 94 [vP, vL, .int .i64 now] → Calls Tryz.prog 41 #[.pointer (some ⟨db, 0, none⟩), .agg #[.int .i64 y0, .bool y1, .int .u64 y2, .int .u64 y3, .int .i64 y4, .bool y5, .int .u64 y6, .int .u64 y7, .string y8, .int .i64 y9, .int .i64 y10]] W fun e w' => e = .returned (.tuple #[.agg #[.bool ov, .int .u64 oh, .int .u64 ol], .int .i64 cd]) ∧ (cd = 0 → ∃ (a5 a6 : Option Addr) (n5 c5 n6 c6 : Nat), Blk w' db 94 [.slice a5 n5 c5, .slice a6 n6 c6, .int .i64 now'] ∧ Q B w' (.slice a5 n5 c5) (.slice a6 n6 c6)) ∧ Below B W w')
    (HQ : ∀ (B : Nat) (W : World) (vP vL : Value), Q B W vP vL → (∀ o : Obj, Q B (W.alloc o) vP vL) ∧ Q B W.drew vP vL ∧ ∀ (b j : Nat) (u : Value), b < B → Q B (W.setCell ⟨b, j, none⟩ u) vP vL) :
    Calls Tryz.prog 32 #[.agg #[.slice aP PN cP, .slice aL LN cL, .int .i64 now], .agg #[.int .i64 y0, .bool y1, .int .u64 y2, .int .u64 y3, .int .i64 y4, .bool y5, .int .u64 y6, .int .u64 y7, .string y8, .int .i64 y9, .int .i64 y10]] w fun e w' => ∃ (a5 a6 : Option Addr) (n5 c5 n6 c6 B : Nat), e = .returned (.tuple #[.agg #[.slice a5 n5 c5, .slice a6 n6 c6, .int .i64 now'], .agg #[.bool ov, .int .u64 oh, .int .u64 ol], .int .i64 0]) ∧ w.heap.size ≤ B ∧ Q B w' (.slice a5 n5 c5) (.slice a6 n6 c6) ∧ Below w.heap.size w w' := by
  have HC1 := Lib.hid H1
  have HC2 := Lib.hid H2
  have HC3 := Lib.hid H3
  have HC4 := Lib.hid H4
  have HKK := Lib.hid HK
  have HQQ := Lib.hid HQ
  clear H1 H2 H3 H4 HK HQ
  have HB0 : Hid (DoBox w ((((w.alloc (.cells #[.slice aP PN cP, .slice aL LN cL, .int .i64 now] 55)).alloc (.cells #[.int .i64 y0, .bool y1, .int .u64 y2, .int .u64 y3, .int .i64 y4, .bool y5, .int .u64 y6, .int .u64 y7, .string y8, .int .i64 y9, .int .i64 y10] 33)).alloc (.cells #[.slice none 0 0, .slice none 0 0, .int .i64 0] 55)).alloc (.cells #[.bool false, .int .u64 0, .int .u64 0] 29)) [.slice aP PN cP, .slice aL LN cL, .int .i64 now] [.int .i64 y0, .bool y1, .int .u64 y2, .int .u64 y3, .int .i64 y4, .bool y5, .int .u64 y6, .int .u64 y7, .string y8, .int .i64 y9, .int .i64 y10] [.slice none 0 0, .slice none 0 0, .int .i64 0] [.bool false, .int .u64 0, .int .u64 0]) := doBox w _ _ _ _
  obtain ⟨⟨s0, s1, s2⟩, -⟩ := HB0.out.s.three
  go_enter Tryz.func32, Tryz.ntmps32
  go_wp2_with fail
  refine (HC1.out _ HB0.out.below).mono ?_
  rintro e w1 ⟨rfl, hb1⟩
  have HB1 := Lib.hid (HB0.out.keep hb1)
  clear hb1 HB0 HC1 s0 s1 s2
  have o0 := HB1.out.o.cell 0 _ rfl
  have o1 := HB1.out.o.cell 1 _ rfl
  have o2 := HB1.out.o.cell 2 _ rfl
  have o3 := HB1.out.o.cell 3 _ rfl
  have o4 := HB1.out.o.cell 4 _ rfl
  have o5 := HB1.out.o.cell 5 _ rfl
  have o6 := HB1.out.o.cell 6 _ rfl
  have o7 := HB1.out.o.cell 7 _ rfl
  have o8 := HB1.out.o.cell 8 _ rfl
  have o9 := HB1.out.o.cell 9 _ rfl
  have o10 := HB1.out.o.cell 10 _ rfl
  go_wp2_with fail
  refine (HC2.out _).mono ?_
  rintro e w2 ⟨rfl, hb2⟩
  have HB2 := Lib.hid (HB1.out.keep hb2)
  clear hb2 HB1 HC2 o0 o1 o2 o3 o4 o5 o6 o7 o8 o9 o10
  obtain ⟨⟨s0, s1, s2⟩, -⟩ := HB2.out.s.three
  go_wp2_with fail
  refine (HC3.out _ HB2.out.below).mono ?_
  rintro e w3 ⟨a5, a6, n5, c5, n6, c6, rfl, hO, hb3⟩
  have HB3 := Lib.hid (HB2.out.keep hb3)
  have hw3 := hb3.size
  have hw2 := HB2.out.a.lt
  clear hb3 HC3 s0 s1 s2
  have HO3 := Lib.hid (HKK.out _ _ _ _ _ hO (bal (Below.refl _ _) (.cells #[.slice a5 n5 c5, .slice a6 n6 c6, .int .i64 now] 94)))
  have HD3 : Hid (Blk (w3.alloc (.cells #[.slice a5 n5 c5, .slice a6 n6 c6, .int .i64 now] 94)) w3.heap.size 94 [.slice a5 n5 c5, .slice a6 n6 c6, .int .i64 now]) := Blk.new w3 _ _
  have HB4 := Lib.hid (HB3.out.keep (bal (Below.refl _ _) (.cells #[.slice a5 n5 c5, .slice a6 n6 c6, .int .i64 now] 94)))
  clear hO HKK
  have o0 := HB4.out.o.cell 0 _ rfl
  have o1 := HB4.out.o.cell 1 _ rfl
  have o2 := HB4.out.o.cell 2 _ rfl
  have o3 := HB4.out.o.cell 3 _ rfl
  have o4 := HB4.out.o.cell 4 _ rfl
  have o5 := HB4.out.o.cell 5 _ rfl
  have o6 := HB4.out.o.cell 6 _ rfl
  have o7 := HB4.out.o.cell 7 _ rfl
  have o8 := HB4.out.o.cell 8 _ rfl
  have o9 := HB4.out.o.cell 9 _ rfl
  have o10 := HB4.out.o.cell 10 _ rfl
  go_wp2_with fail
  refine (HC4.out _ _ _ _ _ hw3 HO3.out HD3.out).mono ?_
  rintro e w4 ⟨rfl, hQ4, hb4⟩
  have HB5 := Lib.hid (HB4.out.upto hw2 hb4)
  clear hb4 HC4 HO3 HB4 HB3 HB2 o0 o1 o2 o3 o4 o5 o6 o7 o8 o9 o10
  obtain ⟨a7, a8, n7, c7, n8, c8, hD4, hq4⟩ := hQ4 hcd
  subst hcd
  have HBa : Hid (Below w4.heap.size w4 (w4.alloc (.cells #[.bool ov, .int .u64 oh, .int .u64 ol] 29))) := bal (Below.refl _ _) _
  have HB6 := Lib.hid (HB5.out.keep HBa.out)
  have HD5 := Lib.hid (hD4.below HBa.out)
  have HA5 : Hid (Blk (w4.alloc (.cells #[.bool ov, .int .u64 oh, .int .u64 ol] 29)) w4.heap.size 29 [.bool ov, .int .u64 oh, .int .u64 ol]) := Blk.new w4 _ _
  have HQ5 := Lib.hid ((HQQ.out _ _ _ _ hq4).1 (.cells #[.bool ov, .int .u64 oh, .int .u64 ol] 29))
  have hw4 := HB5.out.a.lt
  have hdl := hD4.lt
  have hne1 : ¬ w.heap.size + 2 = w3.heap.size := by omega
  have hne2 : ¬ w.heap.size + 3 = w3.heap.size := by omega
  have hne3 : ¬ w.heap.size + 2 = w4.heap.size := by omega
  have hne4 : ¬ w.heap.size + 3 = w4.heap.size := by omega
  clear hQ4 hq4 hD4 HD3 HBa
  obtain ⟨⟨r0, r1, r2⟩, r3, r4, r5⟩ := HB6.out.r.three
  obtain ⟨⟨a0, a1, a2⟩, a3, a4, a5⟩ := HB6.out.a.three
  obtain ⟨⟨d0, d1, d2⟩, d3, d4, d5⟩ := HD5.out.three
  obtain ⟨⟨b0, b1, b2⟩, b3, b4, b5⟩ := HA5.out.three
  go_wp2_with fail
  go_region
  go_wp2_with fail
  have st : ∀ (W : World), Q w2.heap.size W (.slice a7 n7 c7) (.slice a8 n8 c8) → ∀ (b j : Nat) (u : Value), b < w2.heap.size → Q w2.heap.size (W.setCell ⟨b, j, none⟩ u) (.slice a7 n7 c7) (.slice a8 n8 c8) := fun W h b j u hb => (HQQ.out _ _ _ _ h).2.2 b j u hb
  have l2 : w.heap.size + 1 + 1 < w2.heap.size := by omega
  have l3 : w.heap.size + 1 + 1 + 1 < w2.heap.size := by omega
  refine bodyPost_ret (v := .tuple #[.agg #[.slice a7 n7 c7, .slice a8 n8 c8, .int .i64 now'], .agg #[.bool ov, .int .u64 oh, .int .u64 ol], .int .i64 0]) ?_ rfl ⟨a7, a8, n7, c7, n8, c8, w2.heap.size, rfl, by omega, ?_, ?_⟩
  · simp [results, Tryz.results32, go_sem, r0, r1, r2, a0, a1, a2]
  · exact (HQQ.out _ _ _ _ (st _ (st _ (st _ (st _ (st _ (st _ HQ5.out _ _ _ l2) _ _ _ l2) _ _ _ l2) _ _ _ l3) _ _ _ l3) _ _ _ l3)).2.1
  · refine Below.drew ?_
    (repeat' (first | with_reducible exact HB6.out.below | with_reducible refine bse ?_ (by first | (simp; done) | (simp; omega) | (show _ ≤ _; omega)) _))
theorem badP_bare : ∀ P : List Pl, badP (P.map Pl.bare) = badP P
  | [] => rfl
  | x :: P => by
    show badP (x.bare :: P.map Pl.bare) = badP (x :: P)
    unfold badP
    rw [badP_bare P]; rfl
theorem upP_bare : ∀ P : List Pl, upP (P.map Pl.bare) = upP P
  | [] => rfl
  | [x] => rfl
  | x :: y :: P => by
    show upP (x.bare :: y.bare :: P.map Pl.bare) = upP (x :: y :: P)
    unfold upP
    have := upP_bare (y :: P)
    rw [show (y.bare :: P.map Pl.bare) = (y :: P).map Pl.bare from rfl, this]; rfl
theorem leasesFrom_bare (P : List Pl) (now : Int) : ∀ (l done : List Ls), leasesFrom (P.map Pl.bare) now done l = leasesFrom P now done l
  | [], _ => rfl
  | x :: l, done => by
    unfold leasesFrom
    rw [leasesFrom_bare P now l]
    simp only [List.any_map, Function.comp_def]
    rfl
theorem stateE_bare (P : List Pl) (l : List Ls) (now : Int) : stateE (P.map Pl.bare) l now = stateE P l now := by
  unfold stateE leasesE poolsE
  rw [badP_bare, upP_bare, leasesFrom_bare, List.length_map]
theorem stateE_congr {P Q : List Pl} (h : absP P = absP Q) (l : List Ls) (now : Int) : stateE P l now = stateE Q l now := by
  rw [← stateE_bare P, ← stateE_bare Q, bare_abs h]
theorem own_keepR {w w' : World} {B : Nat} {vP vL : Value} {P : List Pl} {l : List Ls} (h : OwnR w B vP vL P l) (hb : Below w.heap.size w w') : OwnR w' B vP vL P l := ⟨own_keep h.pools hb, own_keep h.leases hb, fun x hx => own_keep (h.kept x hx) hb⟩
theorem own_baseR {w : World} {B B' : Nat} {vP vL : Value} {P : List Pl} {l : List Ls} (h : OwnR w B vP vL P l) (hB : B' ≤ B) : OwnR w B' vP vL P l := ⟨row_base h.pools hB, row_base h.leases hB, fun x hx => row_base (h.kept x hx) hB⟩
/-- state.Do. -/
theorem sdo_any (aP aL : Option Addr) (cP cL : Nat) (P : List Pl) (l : List Ls) (now : Int) (o : Opd) (w : World) (hcL : l.length ≤ cL) (hp : Lies plE w aP P) (hk : KeptAt w P) (hs : Lies lsE w aL l) :
    Calls Tryz.prog 32 #[.agg #[.slice aP P.length cP, .slice aL l.length cL, .int .i64 now], .agg #[.int .i64 o.k, .bool o.p.v, .int .u64 o.p.hi, .int .u64 o.p.lo, .int .i64 o.p.b, .bool o.a.v, .int .u64 o.a.hi, .int .u64 o.a.lo, .string o.who, .int .i64 o.pof, .int .i64 o.n]] w fun e w' => ∃ (a5 a6 : Option Addr) (n5 c5 n6 c6 : Nat) (P' : List Pl), e = .returned (.tuple #[.agg #[.slice a5 n5 c5, .slice a6 n6 c6, .int .i64 (doAll ⟨P, l, now⟩ o).2.2.now], .agg #[.bool (doAll ⟨P, l, now⟩ o).2.1.v, .int .u64 (doAll ⟨P, l, now⟩ o).2.1.hi, .int .u64 (doAll ⟨P, l, now⟩ o).2.1.lo], .int .i64 (doAll ⟨P, l, now⟩ o).1]) ∧ OwnR w' w.heap.size (.slice a5 n5 c5) (.slice a6 n6 c6) P' (doAll ⟨P, l, now⟩ o).2.2.l ∧ absP P' = absP (doAll ⟨P, l, now⟩ o).2.2.P ∧ Below w.heap.size w w' := by
  have H1 : ∀ W : World, Below w.heap.size w W → Calls Tryz.prog 39 #[.agg #[.slice aP P.length cP, .slice aL l.length cL, .int .i64 now]] W fun e w' => e = .returned (.int .i64 (stateE P l now)) ∧ Below W.heap.size W w' := fun W hW => scheck_any aP aL cP cL P l now W hcL (hp.below hW) (hk.below hW) (hs.below hW)
  have H2 : ∀ W : World, Calls Tryz.prog 31 #[.agg #[.int .i64 o.k, .bool o.p.v, .int .u64 o.p.hi, .int .u64 o.p.lo, .int .i64 o.p.b, .bool o.a.v, .int .u64 o.a.hi, .int .u64 o.a.lo, .string o.who, .int .i64 o.pof, .int .i64 o.n]] W fun e w' => e = .returned (.int .i64 (formE o)) ∧ Below W.heap.size W w' := fun W => sform_any o W
  by_cases hS : stateE P l now = 0
  · rw [hS] at H1
    by_cases hF : formE o = 0
    · have e0 : doAll ⟨P, l, now⟩ o = doSt ⟨P, l, now⟩ o := by unfold doAll; rw [if_pos hS, if_pos hF]
      rw [e0]
      rw [hF] at H2
      obtain ⟨hP3, hpe, hg, hup, hnow, hlk, hfr, hl⟩ := stateE_ok hS
      have H3 : ∀ W : World, Below w.heap.size w W → Calls Tryz.prog 40 #[.agg #[.slice aP P.length cP, .slice aL l.length cL, .int .i64 now]] W fun e w' => ∃ (a5 a6 : Option Addr) (n5 c5 n6 c6 : Nat), e = .returned (.agg #[.slice a5 n5 c5, .slice a6 n6 c6, .int .i64 now]) ∧ (∃ (X : List Pl), n5 = X.length ∧ n6 = l.length ∧ absP X = absP P ∧ OwnS w' W.heap.size (.slice a5 n5 c5) (.slice a6 n6 c6) X l) ∧ Below W.heap.size W w' := fun W hW =>
        (own_any aP aL cP cL P l now W hP3 (fun x hx => kept6 (hpe x hx)) hl (hp.below hW) (hk.below hW) (hs.below hW)).mono fun e w' ⟨vP, vL, X, q1, q2, q3, q4⟩ => by
          obtain ⟨a5, c5, rfl⟩ := own_slice q3.pools
          obtain ⟨a6, c6, rfl⟩ := own_slice q3.leases
          exact ⟨a5, a6, _, c5, _, c6, q1, ⟨X, rfl, rfl, q2, q3⟩, q4⟩
      have HK : ∀ (B : Nat) (W W' : World) (vP vL : Value), (∃ (a5 a6 : Option Addr) (n5 c5 n6 c6 : Nat) (X : List Pl), vP = .slice a5 n5 c5 ∧ vL = .slice a6 n6 c6 ∧ n5 = X.length ∧ n6 = l.length ∧ absP X = absP P ∧ OwnS W B vP vL X l) → Below W.heap.size W W' → (∃ (a5 a6 : Option Addr) (n5 c5 n6 c6 : Nat) (X : List Pl), vP = .slice a5 n5 c5 ∧ vL = .slice a6 n6 c6 ∧ n5 = X.length ∧ n6 = l.length ∧ absP X = absP P ∧ OwnS W' B vP vL X l) := fun B W W' vP vL ⟨a5, a6, n5, c5, n6, c6, X, q0, q1, q2, q3, q4, q5⟩ hW => ⟨a5, a6, n5, c5, n6, c6, X, q0, q1, q2, q3, q4, q5.keep hW⟩
      have H4 : ∀ (W : World) (db B : Nat) (vP vL : Value), B ≤ db → (∃ (a5 a6 : Option Addr) (n5 c5 n6 c6 : Nat) (X : List Pl), vP = .slice a5 n5 c5 ∧ vL = .slice a6 n6 c6 ∧ n5 = X.length ∧ n6 = l.length ∧ absP X = absP P ∧ OwnS W B vP vL X l) → Blk W db 94 [vP, vL, .int .i64 now] → Calls Tryz.prog 41 #[.pointer (some ⟨db, 0, none⟩), .agg #[.int .i64 o.k, .bool o.p.v, .int .u64 o.p.hi, .int .u64 o.p.lo, .int .i64 o.p.b, .bool o.a.v, .int .u64 o.a.hi, .int .u64 o.a.lo, .string o.who, .int .i64 o.pof, .int .i64 o.n]] W fun e w' => e = .returned (.tuple #[.agg #[.bool (doSt ⟨P, l, now⟩ o).2.1.v, .int .u64 (doSt ⟨P, l, now⟩ o).2.1.hi, .int .u64 (doSt ⟨P, l, now⟩ o).2.1.lo], .int .i64 (doSt ⟨P, l, now⟩ o).1]) ∧ ((doSt ⟨P, l, now⟩ o).1 = 0 → ∃ (a5 a6 : Option Addr) (n5 c5 n6 c6 : Nat), Blk w' db 94 [.slice a5 n5 c5, .slice a6 n6 c6, .int .i64 (doSt ⟨P, l, now⟩ o).2.2.now] ∧ ∃ P', OwnR w' B (.slice a5 n5 c5) (.slice a6 n6 c6) P' (doSt ⟨P, l, now⟩ o).2.2.l ∧ absP P' = absP (doSt ⟨P, l, now⟩ o).2.2.P) ∧ Below B W w' := by
        rintro W db B vP vL hB ⟨a5, a6, n5, c5, n6, c6, X, rfl, rfl, rfl, rfl, q4, q5⟩ hD
        obtain ⟨d1, d2, d3, d4, d5⟩ := doSt_congr q4 l now o
        refine (ddo_any db B a5 a6 c5 c6 X l now o W hD hB q5 ((stateE_congr q4 l now).trans hS) hF).mono ?_
        rintro e w' ⟨rfl, hM, hb⟩
        rw [d1, d2]
        refine ⟨rfl, fun h0 => ?_, hb⟩
        obtain ⟨vP, vL, P', r1, r2, r3⟩ := hM (d1.trans h0)
        obtain ⟨a7, c7, rfl⟩ := own_slice r2.pools
        obtain ⟨a8, c8, rfl⟩ := own_slice r2.leases
        rw [d5] at r1
        refine ⟨a7, a8, _, c7, _, c8, r1, P', ?_, r3.trans d3⟩
        rw [d4] at r2 ⊢
        exact r2
      have HQ : ∀ (B : Nat) (W : World) (vP vL : Value), (∃ P', OwnR W B vP vL P' (doSt ⟨P, l, now⟩ o).2.2.l ∧ absP P' = absP (doSt ⟨P, l, now⟩ o).2.2.P) → (∀ x : Obj, ∃ P', OwnR (W.alloc x) B vP vL P' (doSt ⟨P, l, now⟩ o).2.2.l ∧ absP P' = absP (doSt ⟨P, l, now⟩ o).2.2.P) ∧ (∃ P', OwnR W.drew B vP vL P' (doSt ⟨P, l, now⟩ o).2.2.l ∧ absP P' = absP (doSt ⟨P, l, now⟩ o).2.2.P) ∧ ∀ (b j : Nat) (u : Value), b < B → ∃ P', OwnR (W.setCell ⟨b, j, none⟩ u) B vP vL P' (doSt ⟨P, l, now⟩ o).2.2.l ∧ absP P' = absP (doSt ⟨P, l, now⟩ o).2.2.P := fun B W vP vL ⟨P', q1, q2⟩ => ⟨fun x => ⟨P', own_keepR q1 (bal (Below.refl _ _) x), q2⟩, ⟨P', own_keepR q1 (Below.refl _ _).drew, q2⟩, fun b j u hb => ⟨P', ⟨own_st q1.pools hb _, own_st q1.leases hb _, fun x hx => own_st (q1.kept x hx) hb _⟩, q2⟩⟩
      have H3' : ∀ W : World, Below w.heap.size w W → Calls Tryz.prog 40 #[.agg #[.slice aP P.length cP, .slice aL l.length cL, .int .i64 now]] W fun e w' => ∃ (a5 a6 : Option Addr) (n5 c5 n6 c6 : Nat), e = .returned (.agg #[.slice a5 n5 c5, .slice a6 n6 c6, .int .i64 now]) ∧ (fun (B : Nat) (W : World) (vP vL : Value) => ∃ (a5 a6 : Option Addr) (n5 c5 n6 c6 : Nat) (X : List Pl), vP = .slice a5 n5 c5 ∧ vL = .slice a6 n6 c6 ∧ n5 = X.length ∧ n6 = l.length ∧ absP X = absP P ∧ OwnS W B vP vL X l) W.heap.size w' (.slice a5 n5 c5) (.slice a6 n6 c6) ∧ Below W.heap.size W w' := fun W hW => (H3 W hW).mono fun e w' ⟨a5, a6, n5, c5, n6, c6, q1, ⟨X, q2, q3, q4, q5⟩, q6⟩ => ⟨a5, a6, n5, c5, n6, c6, q1, ⟨a5, a6, n5, c5, n6, c6, X, rfl, rfl, q2, q3, q4, q5⟩, q6⟩
      by_cases hD : (doSt ⟨P, l, now⟩ o).1 = 0
      · rw [hD] at H4 ⊢
        refine (sdo_ok w aP aL P.length cP l.length cL now o.k o.p.v o.p.hi o.p.lo o.p.b o.a.v o.a.hi o.a.lo o.who o.pof o.n 0 _ _ _ _ _ (fun B W vP vL => ∃ P', OwnR W B vP vL P' (doSt ⟨P, l, now⟩ o).2.2.l ∧ absP P' = absP (doSt ⟨P, l, now⟩ o).2.2.P) rfl H1 H2 H3' HK H4 HQ).mono ?_
        rintro e w' ⟨a5, a6, n5, c5, n6, c6, B, rfl, hB, ⟨P', q1, q2⟩, hb⟩
        exact ⟨a5, a6, n5, c5, n6, c6, P', rfl, own_baseR q1 hB, q2, hb⟩
      · have hz := doSt_bad ⟨P, l, now⟩ o hD
        refine (sdo_bad3 w aP aL P.length cP l.length cL now o.k o.p.v o.p.hi o.p.lo o.p.b o.a.v o.a.hi o.a.lo o.who o.pof o.n _ _ _ _ _ _ (fun B W vP vL => ∃ P', OwnR W B vP vL P' (doSt ⟨P, l, now⟩ o).2.2.l ∧ absP P' = absP (doSt ⟨P, l, now⟩ o).2.2.P) hD (by rw [hz.1]; exact ⟨rfl, rfl, rfl⟩) H1 H2 H3' HK H4 HQ).mono ?_
        rintro e w' ⟨rfl, hb⟩
        rw [hz.1, hz.2]
        exact ⟨none, none, 0, 0, 0, 0, [], rfl, ownR_nil _ _, rfl, hb⟩
    · have e0 : doAll ⟨P, l, now⟩ o = (formE o, zeroAd, zSta) := by unfold doAll; rw [if_pos hS, if_neg hF]
      rw [e0]
      refine (sdo_bad2 w aP aL P.length cP l.length cL now o.k o.p.v o.p.hi o.p.lo o.p.b o.a.v o.a.hi o.a.lo o.who o.pof o.n _ hF H1 H2).mono ?_
      rintro e w' ⟨rfl, hb⟩
      exact ⟨none, none, 0, 0, 0, 0, [], rfl, ownR_nil _ _, rfl, hb⟩
  · have e0 : doAll ⟨P, l, now⟩ o = (stateE P l now, zeroAd, zSta) := by unfold doAll; rw [if_neg hS]
    rw [e0]
    refine (sdo_bad1 w aP aL P.length cP l.length cL now o.k o.p.v o.p.hi o.p.lo o.p.b o.a.v o.a.hi o.a.lo o.who o.pof o.n _ hS H1).mono ?_
    rintro e w' ⟨rfl, hb⟩
    exact ⟨none, none, 0, 0, 0, 0, [], rfl, ownR_nil _ _, rfl, hb⟩
end Go.Proofs.YtjainfehlbfiaaaGreat

namespace Go.Proofs.YtjainfehlbfiaaaGreat
open Go.RowKit

theorem Blk.al {w : World} {b t : Nat} {l : List Value} (h : Blk w b t l) (o : Obj) : Blk (w.alloc o) b t l := h.below (bal (Below.refl _ _) _)
theorem Blk.dr {w : World} {b t : Nat} {l : List Value} (h : Blk w b t l) : Blk w.drew b t l := h
theorem blk_new1 (w : World) (o : Obj) (l : List Value) (t : Nat) : Blk ((w.alloc o).alloc (.cells l.toArray t)) (w.heap.size + 1) t l := by
  have := Blk.new (w.alloc o) l t
  rw [show (w.alloc o).heap.size = w.heap.size + 1 by simp] at this
  exact this
def Blk3 (w : World) (b t : Nat) : Prop := ∃ x0 x1 x2, Blk w b t [x0, x1, x2]
theorem Blk3.of {w : World} {b t : Nat} {x0 x1 x2 : Value} (h : Blk w b t [x0, x1, x2]) : Blk3 w b t := ⟨x0, x1, x2, h⟩
theorem Blk.put3 {w : World} {b t : Nat} {u0 u1 u2 : Value} (h : Blk3 w b t) : Blk (((w.setCell ⟨b, 0, none⟩ u0).setCell ⟨b, 1, none⟩ u1).setCell ⟨b, 2, none⟩ u2) b t [u0, u1, u2] := by
  obtain ⟨x0, x1, x2, h⟩ := h
  exact ((h.set 0 u0).set 1 u1).set 2 u2
theorem Blk3.al {w : World} {b t : Nat} (h : Blk3 w b t) (o : Obj) : Blk3 (w.alloc o) b t := by
  obtain ⟨x0, x1, x2, h⟩ := h
  exact ⟨x0, x1, x2, h.al o⟩
theorem Blk3.off3 {w : World} {b c t : Nat} {u0 u1 u2 : Value} (h : Blk3 w b t) (hne : b ≠ c) : Blk3 (((w.setCell ⟨c, 0, none⟩ u0).setCell ⟨c, 1, none⟩ u1).setCell ⟨c, 2, none⟩ u2) b t := by
  obtain ⟨x0, x1, x2, h⟩ := h
  exact ⟨x0, x1, x2, ((h.other hne u0).other hne u1).other hne u2⟩
theorem Blk.off3 {w : World} {b c t : Nat} {l : List Value} {u0 u1 u2 : Value} (h : Blk w b t l) (hne : b ≠ c) : Blk (((w.setCell ⟨c, 0, none⟩ u0).setCell ⟨c, 1, none⟩ u1).setCell ⟨c, 2, none⟩ u2) b t l := ((h.other hne u0).other hne u1).other hne u2
/-- Between two bounds all blocks are as they were. -/
def Btw (B n : Nat) (a w : World) : Prop := n ≤ w.heap.size ∧ ∀ b, B ≤ b → b < n → w.heap[b]? = a.heap[b]?
theorem Btw.refl (B : Nat) (w : World) : Btw B w.heap.size w w := ⟨Nat.le_refl _, fun _ _ _ => rfl⟩
theorem Btw.alloc {B n : Nat} {a w : World} (h : Btw B n a w) (o : Obj) : Btw B n a (w.alloc o) := ⟨by simp; have := h.1; omega, fun b h1 h2 => (Below.heap_alloc w o b (by have := h.1; omega)).trans (h.2 b h1 h2)⟩
theorem Btw.drew {B n : Nat} {a w : World} (h : Btw B n a w) : Btw B n a w.drew := h
theorem Btw.set {B n : Nat} {a w : World} (h : Btw B n a w) {c j : Nat} (hc : c < B ∨ n ≤ c) (u : Value) : Btw B n a (w.setCell ⟨c, j, none⟩ u) := ⟨by simp [World.setCell]; exact h.1, fun b h1 h2 => (Below.heap_setCell w ⟨c, j, none⟩ u b (by show b ≠ c; omega)).trans (h.2 b h1 h2)⟩
theorem own_btw {w w' : World} {B e s n : Nat} {v : Value} {xs : List Value} (h : w.ownsRow B e s v n xs) (hb : Btw B w.heap.size w w') : w'.ownsRow B e s v n xs := by
  obtain ⟨h1, h2⟩ := h
  refine ⟨h1, ?_⟩
  rcases h2 with h2 | ⟨g, c, cur, e1, e2, hc, r⟩
  · exact .inl h2
  · exact .inr ⟨g, c, cur, e1, e2, (hb.2 g e2 (Array.getElem?_eq_some_iff.1 hc).1).trans hc, r⟩
theorem doAll_congr {P Q : List Pl} (h : absP P = absP Q) (l : List Ls) (now : Int) (o : Opd) : (doAll ⟨P, l, now⟩ o).1 = (doAll ⟨Q, l, now⟩ o).1 ∧ (doAll ⟨P, l, now⟩ o).2.1 = (doAll ⟨Q, l, now⟩ o).2.1 ∧ absP (doAll ⟨P, l, now⟩ o).2.2.P = absP (doAll ⟨Q, l, now⟩ o).2.2.P ∧ (doAll ⟨P, l, now⟩ o).2.2.l = (doAll ⟨Q, l, now⟩ o).2.2.l ∧ (doAll ⟨P, l, now⟩ o).2.2.now = (doAll ⟨Q, l, now⟩ o).2.2.now := by
  unfold doAll
  simp only [stateE_congr h l now]
  split
  · split
    · exact doSt_congr h l now o
    · exact ⟨rfl, rfl, rfl, rfl, rfl⟩
  · exact ⟨rfl, rfl, rfl, rfl, rfl⟩
/-- A state that the program holds: it reads as S, its rows are at or behind B. -/
def Rd (W : World) (B : Nat) (S : Sta) (a1 : Option Addr) (n1 c1 : Nat) (a2 : Option Addr) (n2 c2 : Nat) (now : Int) : Prop := ∃ P : List Pl, n1 = P.length ∧ n2 = S.l.length ∧ now = S.now ∧ absP P = absP S.P ∧ OwnR W B (.slice a1 n1 c1) (.slice a2 n2 c2) P S.l
theorem Rd.keep {W W' : World} {B : Nat} {S : Sta} {a1 a2 : Option Addr} {n1 c1 n2 c2 : Nat} {now : Int} (h : Rd W B S a1 n1 c1 a2 n2 c2 now) (hb : Below W.heap.size W W') : Rd W' B S a1 n1 c1 a2 n2 c2 now := by
  obtain ⟨P, h1, h2, h3, h4, h5⟩ := h
  exact ⟨P, h1, h2, h3, h4, own_keepR h5 hb⟩
theorem Rd.btw {W W' : World} {B : Nat} {S : Sta} {a1 a2 : Option Addr} {n1 c1 n2 c2 : Nat} {now : Int} (h : Rd W B S a1 n1 c1 a2 n2 c2 now) (hb : Btw B W.heap.size W W') : Rd W' B S a1 n1 c1 a2 n2 c2 now := by
  obtain ⟨P, h1, h2, h3, h4, h5⟩ := h
  exact ⟨P, h1, h2, h3, h4, own_btw h5.pools hb, own_btw h5.leases hb, fun x hx => own_btw (h5.kept x hx) hb⟩
theorem Rd.base {W : World} {B B' : Nat} {S : Sta} {a1 a2 : Option Addr} {n1 c1 n2 c2 : Nat} {now : Int} (h : Rd W B S a1 n1 c1 a2 n2 c2 now) (hb : B' ≤ B) : Rd W B' S a1 n1 c1 a2 n2 c2 now := by
  obtain ⟨P, h1, h2, h3, h4, h5⟩ := h
  exact ⟨P, h1, h2, h3, h4, own_baseR h5 hb⟩
theorem Rd.st {W : World} {B : Nat} {S : Sta} {a1 a2 : Option Addr} {n1 c1 n2 c2 : Nat} {now : Int} (h : Rd W B S a1 n1 c1 a2 n2 c2 now) {b : Nat} (hb : b < B) (j : Nat) (u : Value) : Rd (W.setCell ⟨b, j, none⟩ u) B S a1 n1 c1 a2 n2 c2 now := by
  obtain ⟨P, h1, h2, h3, h4, h5⟩ := h
  exact ⟨P, h1, h2, h3, h4, ⟨own_st h5.pools hb _, own_st h5.leases hb _, fun x hx => own_st (h5.kept x hx) hb _⟩⟩
theorem Rd.st3 {W : World} {B : Nat} {S : Sta} {a1 a2 : Option Addr} {n1 c1 n2 c2 : Nat} {now : Int} (h : Rd W B S a1 n1 c1 a2 n2 c2 now) {b : Nat} (hb : b < B) (u0 u1 u2 : Value) : Rd (((W.setCell ⟨b, 0, none⟩ u0).setCell ⟨b, 1, none⟩ u1).setCell ⟨b, 2, none⟩ u2) B S a1 n1 c1 a2 n2 c2 now := ((h.st hb 0 u0).st hb 1 u1).st hb 2 u2
theorem Rd.do_ {w : World} {B : Nat} {S : Sta} {a1 a2 : Option Addr} {n1 c1 n2 c2 : Nat} {now : Int} (h : Rd w B S a1 n1 c1 a2 n2 c2 now) (o : Opd) :
    Calls Tryz.prog 32 #[.agg #[.slice a1 n1 c1, .slice a2 n2 c2, .int .i64 now], .agg #[.int .i64 o.k, .bool o.p.v, .int .u64 o.p.hi, .int .u64 o.p.lo, .int .i64 o.p.b, .bool o.a.v, .int .u64 o.a.hi, .int .u64 o.a.lo, .string o.who, .int .i64 o.pof, .int .i64 o.n]] w fun e w' => ∃ (a5 a6 : Option Addr) (n5 c5 n6 c6 : Nat), e = .returned (.tuple #[.agg #[.slice a5 n5 c5, .slice a6 n6 c6, .int .i64 (doAll S o).2.2.now], .agg #[.bool (doAll S o).2.1.v, .int .u64 (doAll S o).2.1.hi, .int .u64 (doAll S o).2.1.lo], .int .i64 (doAll S o).1]) ∧ Rd w' w.heap.size (doAll S o).2.2 a5 n5 c5 a6 n6 c6 (doAll S o).2.2.now ∧ Below w.heap.size w w' := by
  obtain ⟨P, rfl, rfl, rfl, h4, h5⟩ := h
  obtain ⟨S1, S2, S3⟩ := S
  simp only at h4 h5 ⊢
  obtain ⟨d1, d2, d3, d4, d5⟩ := doAll_congr h4 S2 S3 o
  have lP : Lies plE w a1 P := by obtain ⟨a', c', e, q1, q2, q3⟩ := own_open h5.pools; injection e with e1 e2 e3; rw [e1]; exact q2
  have lL : Lies lsE w a2 S2 ∧ S2.length ≤ c2 := by obtain ⟨a', c', e, q1, q2, q3⟩ := own_open h5.leases; injection e with e1 e2 e3; rw [e1]; exact ⟨q2, by omega⟩
  have lK : KeptAt w P := fun x hx => by
    obtain ⟨a', c', e, q1, q2, q3⟩ := own_open (h5.kept x hx)
    unfold Pl.v at e
    injection e with e1 e2 e3
    rw [e1, e3]
    refine ⟨q2, by omega, fun hn => ?_⟩
    rcases own_form (h5.kept x hx) with ⟨e, e2⟩ | ⟨g, c', e, _⟩
    · unfold Pl.v at e; injection e with f1 f2 f3; rw [← e3]; exact f3
    · unfold Pl.v at e; injection e with f1 f2 f3; rw [← e1, f1] at hn; exact absurd hn (by simp)
  refine (sdo_any a1 a2 c1 c2 P S2 S3 o w lL.2 lP lK lL.1).mono ?_
  rintro e w' ⟨a5, a6, n5, c5, n6, c6, P', rfl, q1, q2, q3⟩
  rw [d1, d2, d5]
  rw [d4] at q1
  have p1 := own_slice q1.pools
  have p2 := own_slice q1.leases
  obtain ⟨b5, k5, e5⟩ := p1
  obtain ⟨b6, k6, e6⟩ := p2
  injection e5 with f1 f2 f3
  injection e6 with g1 g2 g3
  exact ⟨a5, a6, n5, c5, n6, c6, rfl, ⟨P', f2, g2, rfl, q2.trans d3, q1⟩, q3⟩
end Go.Proofs.YtjainfehlbfiaaaGreat
