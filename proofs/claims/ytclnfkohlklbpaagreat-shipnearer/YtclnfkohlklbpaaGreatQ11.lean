/- state.first; what Check says of pools. -/
import Derived.Test.YtclnfkohlklbpaaGreatQ10
import Derived.Deep.CutRange
import Derived.Deep.RegionHeld3
set_option linter.unusedVariables false
set_option linter.unusedSimpArgs false
namespace Go.Proofs.YtclnfkohlklbpaaGreat
open Go.RowKit

def firstN {α : Type} (p : α → Bool) (l : List α) : Nat := match l.findIdx? p with | some i => i | none => l.length
theorem firstPl_any (a : Option Addr) (c : Nat) (l : List Pl) (w : World) (f : Nat) (lb : Array Value) (p : Pl → Bool) (hl : l.length ≤ 1000) (hs : Lies plE w a l) (ef : ∀ args w, (callFunc f args).run Tryz.prog w = .ok (.enter f args) w)
    (hp : ∀ (W : World) (x : Pl), x ∈ l → Below w.heap.size w W → Calls Tryz.prog f (#[.agg #[.bool x.p.v, .int .u64 x.p.hi, .int .u64 x.p.lo, .int .i64 x.p.b, .slice x.s x.kept.length x.c]] ++ lb) W fun e w' => e = .returned (.bool (p x)) ∧ Below w.heap.size w w') :
    Calls Tryz.prog 60 #[.slice a l.length c, .func (.func f) #[] lb] w fun e w' => e = .returned (.int .i64 (firstN p l)) ∧ Below w.heap.size w w' := by
  have HI := Lib.hid (ifnPl_any a c l w f lb p hl hs ef hp)
  have HE : Hid (∀ i, l.findIdx? p = i → firstN p l = (match i with | some i => i | none => l.length)) := fun i e => by unfold firstN; rw [e]
  generalize firstN p l = R at *
  cases h : l.findIdx? p with
  | none =>
    have HE2 := Lib.hid (HE.out _ h)
    rw [h] at HI
    rw [show (idxI (none : Option Nat)) = -1 from rfl] at HI
    dsimp only at HE2
    generalize l.length = N at *
    clear hs hp h HE
    go_enter Tryz.func60, Tryz.ntmps60
    go_wp2_with fail
    refine HI.out.mono ?_
    rintro e w2 ⟨rfl, hb⟩
    have HB2 := Lib.hid hb
    clear hb
    go_wp2
    go_ret
    exact ⟨by rw [HE2.out]; rfl, HB2.out⟩
  | some i =>
    have HE2 := Lib.hid (HE.out _ h)
    rw [h] at HI
    rw [show (idxI (some i)) = (i : Int) from rfl] at HI
    dsimp only at HE2
    have hi0 : (0 : Int) ≤ (i : Int) := by omega
    generalize l.length = N at *
    clear hs hp h HE
    go_enter Tryz.func60, Tryz.ntmps60
    go_wp2_with fail
    refine HI.out.mono ?_
    rintro e w2 ⟨rfl, hb⟩
    have HB2 := Lib.hid hb
    clear hb
    go_wp2
    go_ret
    exact ⟨by rw [HE2.out]; rfl, HB2.out⟩
theorem firstAd_any (a : Option Addr) (c : Nat) (l : List Ad) (w : World) (f : Nat) (lb : Array Value) (p : Ad → Bool) (hl : l.length ≤ 1000) (hs : Lies adE w a l) (ef : ∀ args w, (callFunc f args).run Tryz.prog w = .ok (.enter f args) w)
    (hp : ∀ (W : World) (x : Ad), x ∈ l → Below w.heap.size w W → Calls Tryz.prog f (#[.agg #[.bool x.v, .int .u64 x.hi, .int .u64 x.lo]] ++ lb) W fun e w' => e = .returned (.bool (p x)) ∧ Below w.heap.size w w') :
    Calls Tryz.prog 65 #[.slice a l.length c, .func (.func f) #[] lb] w fun e w' => e = .returned (.int .i64 (firstN p l)) ∧ Below w.heap.size w w' := by
  have HI := Lib.hid (ifnAd_any a c l w f lb p hl hs ef hp)
  have HE : Hid (∀ i, l.findIdx? p = i → firstN p l = (match i with | some i => i | none => l.length)) := fun i e => by unfold firstN; rw [e]
  generalize firstN p l = R at *
  cases h : l.findIdx? p with
  | none =>
    have HE2 := Lib.hid (HE.out _ h)
    rw [h] at HI
    rw [show (idxI (none : Option Nat)) = -1 from rfl] at HI
    dsimp only at HE2
    generalize l.length = N at *
    clear hs hp h HE
    go_enter Tryz.func65, Tryz.ntmps65
    go_wp2_with fail
    refine HI.out.mono ?_
    rintro e w2 ⟨rfl, hb⟩
    have HB2 := Lib.hid hb
    clear hb
    go_wp2
    go_ret
    exact ⟨by rw [HE2.out]; rfl, HB2.out⟩
  | some i =>
    have HE2 := Lib.hid (HE.out _ h)
    rw [h] at HI
    rw [show (idxI (some i)) = (i : Int) from rfl] at HI
    dsimp only at HE2
    have hi0 : (0 : Int) ≤ (i : Int) := by omega
    generalize l.length = N at *
    clear hs hp h HE
    go_enter Tryz.func65, Tryz.ntmps65
    go_wp2_with fail
    refine HI.out.mono ?_
    rintro e w2 ⟨rfl, hb⟩
    have HB2 := Lib.hid hb
    clear hb
    go_wp2
    go_ret
    exact ⟨by rw [HE2.out]; rfl, HB2.out⟩
theorem firstLs_any (a : Option Addr) (c : Nat) (l : List Ls) (w : World) (f : Nat) (lb : Array Value) (p : Ls → Bool) (hl : l.length ≤ 1000) (hs : Lies lsE w a l) (ef : ∀ args w, (callFunc f args).run Tryz.prog w = .ok (.enter f args) w)
    (hp : ∀ (W : World) (x : Ls), x ∈ l → Below w.heap.size w W → Calls Tryz.prog f (#[.agg #[.bool x.a.v, .int .u64 x.a.hi, .int .u64 x.a.lo, .string x.who, .int .i64 x.un]] ++ lb) W fun e w' => e = .returned (.bool (p x)) ∧ Below w.heap.size w w') :
    Calls Tryz.prog 88 #[.slice a l.length c, .func (.func f) #[] lb] w fun e w' => e = .returned (.int .i64 (firstN p l)) ∧ Below w.heap.size w w' := by
  have HI := Lib.hid (ifnL_any a c l w f lb p hl hs ef hp)
  have HE : Hid (∀ i, l.findIdx? p = i → firstN p l = (match i with | some i => i | none => l.length)) := fun i e => by unfold firstN; rw [e]
  generalize firstN p l = R at *
  cases h : l.findIdx? p with
  | none =>
    have HE2 := Lib.hid (HE.out _ h)
    rw [h] at HI
    rw [show (idxI (none : Option Nat)) = -1 from rfl] at HI
    dsimp only at HE2
    generalize l.length = N at *
    clear hs hp h HE
    go_enter Tryz.func88, Tryz.ntmps88
    go_wp2_with fail
    refine HI.out.mono ?_
    rintro e w2 ⟨rfl, hb⟩
    have HB2 := Lib.hid hb
    clear hb
    go_wp2
    go_ret
    exact ⟨by rw [HE2.out]; rfl, HB2.out⟩
  | some i =>
    have HE2 := Lib.hid (HE.out _ h)
    rw [h] at HI
    rw [show (idxI (some i)) = (i : Int) from rfl] at HI
    dsimp only at HE2
    have hi0 : (0 : Int) ≤ (i : Int) := by omega
    generalize l.length = N at *
    clear hs hp h HE
    go_enter Tryz.func88, Tryz.ntmps88
    go_wp2_with fail
    refine HI.out.mono ?_
    rintro e w2 ⟨rfl, hb⟩
    have HB2 := Lib.hid hb
    clear hb
    go_wp2
    go_ret
    exact ⟨by rw [HE2.out]; rfl, HB2.out⟩
/-- What is wrong with the first pool that is not right. -/
def badP : List Pl → Int
  | [] => 0
  | x :: r => if poolE x.p x.kept = 0 then badP r else poolE x.p x.kept
def Pf.cmpP (p q : Pf) : Int := Go.Proofs.YtclnfkohlklbpaaGreat.cmpP p.v p.hi p.lo p.b q.v q.hi q.lo q.b
/-- Do two pools beside each other not rise, or do they meet? -/
def clash (p q : Pf) : Bool := decide (0 ≤ p.cmpP q) || p.com q
def upP : List Pl → Int
  | x :: y :: r => if clash x.p y.p = true then 4 else upP (y :: r)
  | _ => 0
def poolsE (l : List Pl) : Int := if 3 < l.length then 2 else if badP l = 0 then upP l else badP l
theorem upP_step {l : List Pl} {k : Nat} (h : k + 1 < l.length) : upP (l.drop k) = if clash l[k].p l[k + 1].p = true then 4 else upP (l.drop (k + 1)) := by
  rw [List.drop_eq_getElem_cons (show k < l.length by omega), List.drop_eq_getElem_cons h, upP]
theorem upP_short : ∀ {m : List Pl}, m.length ≤ 1 → upP m = 0
  | [], _ => by unfold upP; rfl
  | [_], _ => by unfold upP; rfl
  | _ :: _ :: _, h => absurd h (by simp)
theorem upP_last {l : List Pl} {k : Nat} (h : l.length ≤ k + 1) : upP (l.drop k) = 0 := upP_short (by rw [List.length_drop]; omega)
theorem badP_all {l : List Pl} (h : badP l = 0) : ∀ x ∈ l, poolE x.p x.kept = 0 := by
  induction l with
  | nil => simp
  | cons y r ih =>
    unfold badP at h
    by_cases e : poolE y.p y.kept = 0
    · rw [if_pos e] at h
      intro x hx
      rcases List.mem_cons.1 hx with rfl | hx
      · exact e
      · exact ih h x hx
    · rw [if_neg e] at h; exact absurd h e
theorem poolE_chk {p : Pf} {l : List Ad} (h : poolE p l = 0) : p.chk = 0 := by
  unfold poolE at h
  by_cases e : p.chk = 0
  · exact e
  · first | (rw [if_neg e] at h; exact absurd h e) | (simp [e] at h)
theorem blk2 (w : World) (l1 l2 : List Value) (t : Nat) : Blk ((w.alloc (.cells l1.toArray t)).alloc (.cells l2.toArray t)).drew w.heap.size t l1 ∧ Blk ((w.alloc (.cells l1.toArray t)).alloc (.cells l2.toArray t)).drew (w.heap.size + 1) t l2 := by
  refine ⟨(Blk.new w l1 t).below (bal (Below.refl _ _) _).drew, ?_⟩
  have := Blk.new (w.alloc (.cells l1.toArray t)) l2 t
  rw [show (w.alloc (.cells l1.toArray t)).heap.size = w.heap.size + 1 by simp] at this
  exact this
theorem keep2P {w W W' : World} {g o k : Nat} {v0 v1 v2 v3 u0 u1 u2 u3 : Value} (hg : g < W.heap.size) (h : ((W.cell? ⟨g, o + k * 5, none⟩ = some (v0) ∧ W.cell? ⟨g, o + k * 5 + 1, none⟩ = some (v1) ∧ W.cell? ⟨g, o + k * 5 + 2, none⟩ = some (v2) ∧ W.cell? ⟨g, o + k * 5 + 3, none⟩ = some (v3)) ∧ W.cell? ⟨g, o + (k + 1) * 5, none⟩ = some (u0) ∧ W.cell? ⟨g, o + (k + 1) * 5 + 1, none⟩ = some (u1) ∧ W.cell? ⟨g, o + (k + 1) * 5 + 2, none⟩ = some (u2) ∧ W.cell? ⟨g, o + (k + 1) * 5 + 3, none⟩ = some (u3)) ∧ Below w.heap.size w W) (hb : Below W.heap.size W W') : ((W'.cell? ⟨g, o + k * 5, none⟩ = some (v0) ∧ W'.cell? ⟨g, o + k * 5 + 1, none⟩ = some (v1) ∧ W'.cell? ⟨g, o + k * 5 + 2, none⟩ = some (v2) ∧ W'.cell? ⟨g, o + k * 5 + 3, none⟩ = some (v3)) ∧ W'.cell? ⟨g, o + (k + 1) * 5, none⟩ = some (u0) ∧ W'.cell? ⟨g, o + (k + 1) * 5 + 1, none⟩ = some (u1) ∧ W'.cell? ⟨g, o + (k + 1) * 5 + 2, none⟩ = some (u2) ∧ W'.cell? ⟨g, o + (k + 1) * 5 + 3, none⟩ = some (u3)) ∧ Below w.heap.size w W' := by
  obtain ⟨⟨⟨a0, a1, a2, a3⟩, b0, b1, b2, b3⟩, hw⟩ := h
  have kk := (bcell hb).1
  exact ⟨⟨⟨by rw [kk _ _ hg]; exact a0, by rw [kk _ _ hg]; exact a1, by rw [kk _ _ hg]; exact a2, by rw [kk _ _ hg]; exact a3⟩, by rw [kk _ _ hg]; exact b0, by rw [kk _ _ hg]; exact b1, by rw [kk _ _ hg]; exact b2, by rw [kk _ _ hg]; exact b3⟩, btr hw hb⟩
set_option maxHeartbeats 16000000 in
set_option maxRecDepth 100000 in
theorem lookPools_any (a : Option Addr) (c : Nat) (l : List Pl) (w : World) (hs : Lies plE w a l) (hk : KeptAt w l) :
    Calls Tryz.prog 38 #[.slice a l.length c] w fun e w' => e = .returned (.int .i64 (poolsE l)) ∧ Below w.heap.size w w' := by
  by_cases hl : 3 < l.length
  · rw [show poolsE l = 2 by unfold poolsE; rw [if_pos hl]]
    have hl' : (3 : Int) < (l.length : Int) := by omega
    generalize l.length = N at *
    go_enter Tryz.func38, Tryz.ntmps38
    go_wp2
    go_ret
    exact ⟨rfl, Below.refl _ _⟩
  rw [show poolsE l = if badP l = 0 then upP l else badP l by unfold poolsE; rw [if_neg hl]]
  obtain ⟨N, hN⟩ : ∃ N, N = l.length := ⟨_, rfl⟩
  rw [← hN] at hl ⊢
  have hN3 : N ≤ 3 := by omega
  have hd3 : decide ((3 : Int) < (N : Int)) = false := decide_eq_false (by omega)
  have HN : Hid (N = l.length) := hN
  have HL := Lib.hid hs
  have HK := Lib.hid hk
  obtain ⟨R, hR⟩ : ∃ R, R = (if badP l = 0 then upP l else badP l) := ⟨_, rfl⟩
  rw [← hR]
  have HR := Lib.hid hR
  clear hN hl hs hR hk
  go_enter Tryz.func38, Tryz.ntmps38
  go_wp2_with fail
  go_loopw [14] (fun vi wr => ∃ k : Nat, vi = .int .i64 k ∧ k ≤ N ∧ Hid (Below w.heap.size w wr) ∧ Hid (badP l = badP (l.drop k)))
    (fun vi _ => N - (intOf vi).toNat)
  case atStart => exact ⟨0, rfl, Nat.zero_le _, Below.refl _ _, rfl⟩
  case round =>
    obtain ⟨k, rfl, hk, hb, hh⟩ := hrel
    by_cases hkN : k < N
    · have hkl : k < l.length := by have := HN.out; omega
      obtain ⟨g, o, rfl, hg, c0, c1, c2, c3, c4⟩ := HL.out.pl k hkl
      have hdec := hh.out
      rw [List.drop_eq_getElem_cons hkl, badP] at hdec
      rw [← (bcell hb.out).1 _ _ hg] at c0 c1 c2 c3 c4
      have hC : Hid (∀ W : World, Below w.heap.size w W → Calls Tryz.prog 27 #[.agg #[.bool l[k].p.v, .int .u64 l[k].p.hi, .int .u64 l[k].p.lo, .int .i64 l[k].p.b, .slice l[k].s l[k].kept.length l[k].c]] W fun e w' => e = .returned (.int .i64 (poolE l[k].p l[k].kept)) ∧ Below W.heap.size W w') := fun W hW =>
        pool_any l[k].p l[k].pok l[k].s l[k].c l[k].kept W ((HK.out l[k] (List.getElem_mem hkl)).1.below hW)
      have hb1 := Lib.hid (bal hb.out (.cells #[.bool l[k].p.v, .int .u64 l[k].p.hi, .int .u64 l[k].p.lo, .int .i64 l[k].p.b, .slice l[k].s l[k].kept.length l[k].c] 71))
      have hkz : (k : Int) < (N : Int) := by omega
      have hk0 : (0 : Int) ≤ (k : Int) := by omega
      generalize poolE l[k].p l[k].kept = r at *
      generalize l[k].p.v = x0 at *
      generalize l[k].p.hi = x1 at *
      generalize l[k].p.lo = x2 at *
      generalize l[k].p.b = x3 at *
      generalize l[k].kept.length = kn at *
      generalize l[k].s = ks at *
      generalize l[k].c = kc at *
      clear hh hb
      by_cases hx : r = 0
      · subst hx
        rw [if_pos rfl] at hdec
        have HD := Lib.hid hdec
        clear hdec
        go_wp2_with fail
        refine (hC.out _ hb1.out).mono ?_
        rintro e w2 ⟨rfl, hb2⟩
        have hb3 := Lib.hid (btr hb1.out hb2)
        clear hb1 hb2
        go_wp2_with fail
        go_roundw
        case rel => exact ⟨k + 1, by go_num, by omega, hb3, HD⟩
        case measure => simp [intOf]; omega
      · rw [if_neg hx] at hdec
        have HD : Hid (R = r) := by have := HR.out; rw [hdec, if_neg hx] at this; exact this
        have hI : (r != 0) = true := by rw [bne_iff_ne]; exact hx
        clear hdec hx
        go_wp2_with fail
        refine (hC.out _ hb1.out).mono ?_
        rintro e w2 ⟨rfl, hb2⟩
        have hb3 := Lib.hid (btr hb1.out hb2)
        clear hb1 hb2
        go_wp2_with fail
        go_ret
        exact ⟨congrArg (fun r => Ending.returned (Value.int .i64 r)) HD.out.symm, hb3.out⟩
    · obtain rfl : k = N := by omega
      have hd := hh.out
      rw [List.drop_eq_nil_of_le (by have := HN.out; omega)] at hd
      have HR2 : Hid (R = upP l) := by have := HR.out; rw [hd, badP, if_pos rfl] at this; exact this
      have HG := Lib.hid (fun x hx => poolE_chk (badP_all hd x hx))
      have hkk : ¬ (k : Int) < (k : Int) := by omega
      clear hd hh HR
      go_wp2_with fail
      go_loopw [6] (fun vi wr => ∃ m : Nat, vi = .int .i64 ((m : Int) + 1) ∧ m ≤ k ∧ Hid (Below w.heap.size w wr) ∧ Hid (upP l = upP (l.drop m)))
        (fun vi _ => k + 1 - (intOf vi).toNat)
      case atStart => exact ⟨0, rfl, Nat.zero_le _, hb, rfl⟩
      case round =>
        clear hb
        obtain ⟨m, rfl, hm, hb, hh⟩ := hrel
        by_cases hmN : m + 1 < k
        · have hm1 : m < l.length := by have := HN.out; omega
          have hm2 : m + 1 < l.length := by have := HN.out; omega
          obtain ⟨g, o, rfl, hg, c0, c1, c2, c3, c4⟩ := HL.out.pl m hm1
          obtain ⟨g', o', hgo', -, d0, d1, d2, d3, d4⟩ := HL.out.pl (m + 1) hm2
          obtain ⟨rfl, rfl⟩ : g = g' ∧ o = o' := by simpa using hgo'
          clear hgo' c4 d4
          have hdec := hh.out
          rw [upP_step hm2] at hdec
          rw [← (bcell hb.out).1 _ _ hg] at c0 c1 c2 c3 d0 d1 d2 d3
          have hg2 : g < wr.heap.size := Nat.lt_of_lt_of_le hg hb.out.size
          have hCm : Hid (∀ W : World, Calls Tryz.prog 52 #[.agg #[.bool l[m].p.v, .int .u64 l[m].p.hi, .int .u64 l[m].p.lo, .int .i64 l[m].p.b], .agg #[.bool l[m + 1].p.v, .int .u64 l[m + 1].p.hi, .int .u64 l[m + 1].p.lo, .int .i64 l[m + 1].p.b]] W fun e w' => e = .returned (.int .i64 (l[m].p.cmpP l[m + 1].p)) ∧ Below W.heap.size W w') := fun W => compare_any _ _ _ _ _ _ _ _ W l[m].pok.1 l[m].pok.2.2.1 l[m + 1].pok.1 l[m + 1].pok.2.2.1
          have hCo : Hid (∀ W : World, Calls Tryz.prog 53 #[.agg #[.bool l[m].p.v, .int .u64 l[m].p.hi, .int .u64 l[m].p.lo, .int .i64 l[m].p.b], .agg #[.bool l[m + 1].p.v, .int .u64 l[m + 1].p.hi, .int .u64 l[m + 1].p.lo, .int .i64 l[m + 1].p.b]] W fun e w' => e = .returned (.bool (l[m].p.com l[m + 1].p)) ∧ Below W.heap.size W w') := fun W => common_any _ _ l[m].pok l[m + 1].pok (HG.out _ (List.getElem_mem hm1)) (HG.out _ (List.getElem_mem hm2)) W
          unfold clash at hdec
          generalize l[m].p.cmpP l[m + 1].p = cm at *
          generalize l[m].p.com l[m + 1].p = co at *
          generalize l[m].p.v = x0 at *
          generalize l[m].p.hi = x1 at *
          generalize l[m].p.lo = x2 at *
          generalize l[m].p.b = x3 at *
          generalize l[m + 1].p.v = y0 at *
          generalize l[m + 1].p.hi = y1 at *
          generalize l[m + 1].p.lo = y2 at *
          generalize l[m + 1].p.b = y3 at *
          have hkz : (m : Int) + 1 < (k : Int) := by omega
          have hk0 : (0 : Int) ≤ (m : Int) + 1 := by omega
          have hm0 : (0 : Int) ≤ (m : Int) := by omega
          have hmz : (m : Int) < (k : Int) := by omega
          have hmn : m < k := by omega
          have hwm : IntKind.i64.wrap ((m : Int) + 1 - 1) = (m : Int) := by rw [IntKind.wrap_i64]; omega
          have hwm2 : IntKind.i64.wrap (m : Int) = (m : Int) := by rw [IntKind.wrap_i64]; omega
          have hwp : IntKind.i64.wrap ((m : Int) + 1 + 1) = (m : Int) + 1 + 1 := by rw [IntKind.wrap_i64]; omega
          have htn : ((m : Int) + 1).toNat = m + 1 := by omega
          have T0 : Hid (((wr.cell? ⟨g, o + m * 5, none⟩ = some (.bool x0) ∧ wr.cell? ⟨g, o + m * 5 + 1, none⟩ = some (.int .u64 x1) ∧ wr.cell? ⟨g, o + m * 5 + 2, none⟩ = some (.int .u64 x2) ∧ wr.cell? ⟨g, o + m * 5 + 3, none⟩ = some (.int .i64 x3)) ∧ wr.cell? ⟨g, o + (m + 1) * 5, none⟩ = some (.bool y0) ∧ wr.cell? ⟨g, o + (m + 1) * 5 + 1, none⟩ = some (.int .u64 y1) ∧ wr.cell? ⟨g, o + (m + 1) * 5 + 2, none⟩ = some (.int .u64 y2) ∧ wr.cell? ⟨g, o + (m + 1) * 5 + 3, none⟩ = some (.int .i64 y3)) ∧ Below w.heap.size w wr) := ⟨⟨⟨c0, c1, c2, c3⟩, d0, d1, d2, d3⟩, hb.out⟩
          have TD := Lib.hid (keep2P hg2 T0.out (Below.refl wr.heap.size wr).drew)
          have TZ := Lib.hid (keep2P hg2 T0.out (bal (Below.refl wr.heap.size wr) (.cells #[.bool false, .int .u64 0, .int .u64 0, .int .i64 0] 40)).drew)
          have TP := Lib.hid (keep2P hg2 T0.out (bal (Below.refl wr.heap.size wr) (.cells #[.bool x0, .int .u64 x1, .int .u64 x2, .int .i64 x3] 40)).drew)
          have TQ := Lib.hid (keep2P hg2 T0.out (bal (Below.refl wr.heap.size wr) (.cells #[.bool y0, .int .u64 y1, .int .u64 y2, .int .i64 y3] 40)).drew)
          have TZZ := Lib.hid (keep2P hg2 T0.out (bal (bal (Below.refl wr.heap.size wr) (.cells #[.bool false, .int .u64 0, .int .u64 0, .int .i64 0] 40)) (.cells #[.bool false, .int .u64 0, .int .u64 0, .int .i64 0] 40)).drew)
          have TZP := Lib.hid (keep2P hg2 T0.out (bal (bal (Below.refl wr.heap.size wr) (.cells #[.bool false, .int .u64 0, .int .u64 0, .int .i64 0] 40)) (.cells #[.bool x0, .int .u64 x1, .int .u64 x2, .int .i64 x3] 40)).drew)
          have TZQ := Lib.hid (keep2P hg2 T0.out (bal (bal (Below.refl wr.heap.size wr) (.cells #[.bool false, .int .u64 0, .int .u64 0, .int .i64 0] 40)) (.cells #[.bool y0, .int .u64 y1, .int .u64 y2, .int .i64 y3] 40)).drew)
          have TPZ := Lib.hid (keep2P hg2 T0.out (bal (bal (Below.refl wr.heap.size wr) (.cells #[.bool x0, .int .u64 x1, .int .u64 x2, .int .i64 x3] 40)) (.cells #[.bool false, .int .u64 0, .int .u64 0, .int .i64 0] 40)).drew)
          have TPP := Lib.hid (keep2P hg2 T0.out (bal (bal (Below.refl wr.heap.size wr) (.cells #[.bool x0, .int .u64 x1, .int .u64 x2, .int .i64 x3] 40)) (.cells #[.bool x0, .int .u64 x1, .int .u64 x2, .int .i64 x3] 40)).drew)
          have TPQ := Lib.hid (keep2P hg2 T0.out (bal (bal (Below.refl wr.heap.size wr) (.cells #[.bool x0, .int .u64 x1, .int .u64 x2, .int .i64 x3] 40)) (.cells #[.bool y0, .int .u64 y1, .int .u64 y2, .int .i64 y3] 40)).drew)
          have TQZ := Lib.hid (keep2P hg2 T0.out (bal (bal (Below.refl wr.heap.size wr) (.cells #[.bool y0, .int .u64 y1, .int .u64 y2, .int .i64 y3] 40)) (.cells #[.bool false, .int .u64 0, .int .u64 0, .int .i64 0] 40)).drew)
          have TQP := Lib.hid (keep2P hg2 T0.out (bal (bal (Below.refl wr.heap.size wr) (.cells #[.bool y0, .int .u64 y1, .int .u64 y2, .int .i64 y3] 40)) (.cells #[.bool x0, .int .u64 x1, .int .u64 x2, .int .i64 x3] 40)).drew)
          have TQQ := Lib.hid (keep2P hg2 T0.out (bal (bal (Below.refl wr.heap.size wr) (.cells #[.bool y0, .int .u64 y1, .int .u64 y2, .int .i64 y3] 40)) (.cells #[.bool y0, .int .u64 y1, .int .u64 y2, .int .i64 y3] 40)).drew)
          have F1 := Lib.hid (blk2 wr [.bool x0, .int .u64 x1, .int .u64 x2, .int .i64 x3] [.bool y0, .int .u64 y1, .int .u64 y2, .int .i64 y3] 40)
          have F2 := Lib.hid (blk2 wr [.bool y0, .int .u64 y1, .int .u64 y2, .int .i64 y3] [.bool x0, .int .u64 x1, .int .u64 x2, .int .i64 x3] 40)
          go_wp2_with fail
          go_cut [7, 8] from 24 to 49 (fun v7 v8 wc => ∃ b7 b8 : Nat, v7 = .pointer (some ⟨b7, 0, none⟩) ∧ v8 = .pointer (some ⟨b8, 0, none⟩) ∧ Hid (Blk wc b7 40 [.bool x0, .int .u64 x1, .int .u64 x2, .int .i64 x3] ∧ Blk wc b8 40 [.bool y0, .int .u64 y1, .int .u64 y2, .int .i64 y3] ∧ Below w.heap.size w wc))
          case first =>
            go_wp2_with fail
            go_region_held3 (fun w' => ((w'.cell? ⟨g, o + m * 5, none⟩ = some (.bool x0) ∧ w'.cell? ⟨g, o + m * 5 + 1, none⟩ = some (.int .u64 x1) ∧ w'.cell? ⟨g, o + m * 5 + 2, none⟩ = some (.int .u64 x2) ∧ w'.cell? ⟨g, o + m * 5 + 3, none⟩ = some (.int .i64 x3)) ∧ w'.cell? ⟨g, o + (m + 1) * 5, none⟩ = some (.bool y0) ∧ w'.cell? ⟨g, o + (m + 1) * 5 + 1, none⟩ = some (.int .u64 y1) ∧ w'.cell? ⟨g, o + (m + 1) * 5 + 2, none⟩ = some (.int .u64 y2) ∧ w'.cell? ⟨g, o + (m + 1) * 5 + 3, none⟩ = some (.int .i64 y3)) ∧ Below w.heap.size w w')
              (first | with_reducible exact T0.out | with_reducible exact TD.out | with_reducible exact TZ.out | with_reducible exact TP.out | with_reducible exact TQ.out | with_reducible exact TZZ.out | with_reducible exact TZP.out | with_reducible exact TZQ.out | with_reducible exact TPZ.out | with_reducible exact TPP.out | with_reducible exact TPQ.out | with_reducible exact TQZ.out | with_reducible exact TQP.out | with_reducible exact TQQ.out)
              (fail)
            all_goals go_wp2_with fail
            all_goals go_meet
            all_goals
              first
                | exact ⟨_, _, rfl, rfl, ⟨F1.out.1, F1.out.2, TPQ.out.2⟩⟩
                | exact ⟨_, _, rfl, rfl, ⟨F2.out.2, F2.out.1, TQP.out.2⟩⟩
          case rest =>
            obtain ⟨b7, b8, rfl, rfl, hK⟩ := hcut
            have HP := Lib.hid hK.out.1
            have HQ := Lib.hid hK.out.2.1
            have HB := Lib.hid hK.out.2.2
            clear hK F1 F2 T0 TD TZ TP TQ TZZ TZP TZQ TPZ TPP TPQ TQZ TQP TQQ c0 c1 c2 c3 d0 d1 d2 d3
            obtain ⟨⟨p0, p1, p2, p3⟩, -⟩ := HP.out.four
            obtain ⟨⟨q0, q1, q2, q3⟩, -⟩ := HQ.out.four
            by_cases hcm : 0 ≤ cm
            · rw [decide_eq_true hcm, Bool.true_or, if_pos rfl] at hdec
              have HU : Hid (R = 4) := HR2.out.trans hdec
              clear hdec HR2
              go_wp2_with fail
              refine (hCm.out _).mono ?_
              rintro e w2 ⟨rfl, hb2⟩
              have HB2 := Lib.hid (btr HB.out hb2)
              clear hb2 HB HP HQ p0 p1 p2 p3 q0 q1 q2 q3 hCm hCo
              go_wp2_with fail
              go_ret
              exact ⟨congrArg (fun r => Ending.returned (Value.int .i64 r)) HU.out.symm, HB2.out⟩
            · rw [decide_eq_false hcm, Bool.false_or] at hdec
              cases co
              · rw [if_neg (by decide)] at hdec
                have HD := Lib.hid hdec
                clear hdec
                go_wp2_with fail
                refine (hCm.out _).mono ?_
                rintro e w2 ⟨rfl, hb2⟩
                have HB2 := Lib.hid (btr HB.out hb2)
                obtain ⟨⟨r0, r1, r2, r3⟩, -⟩ := (HP.out.below hb2).four
                obtain ⟨⟨s0, s1, s2, s3⟩, -⟩ := (HQ.out.below hb2).four
                clear hb2 HB HP HQ p0 p1 p2 p3 q0 q1 q2 q3 hCm
                go_wp2_with fail
                refine (hCo.out _).mono ?_
                rintro e w3 ⟨rfl, hb3⟩
                have HB3 := Lib.hid (btr HB2.out hb3)
                clear hb3 HB2 r0 r1 r2 r3 s0 s1 s2 s3 hCo
                go_wp2_with fail
                go_roundw
                case rel => exact ⟨m + 1, by go_num, by omega, HB3, HD⟩
                case measure => simp [intOf]; omega
              · rw [if_pos rfl] at hdec
                have HU : Hid (R = 4) := HR2.out.trans hdec
                clear hdec HR2
                go_wp2_with fail
                refine (hCm.out _).mono ?_
                rintro e w2 ⟨rfl, hb2⟩
                have HB2 := Lib.hid (btr HB.out hb2)
                obtain ⟨⟨r0, r1, r2, r3⟩, -⟩ := (HP.out.below hb2).four
                obtain ⟨⟨s0, s1, s2, s3⟩, -⟩ := (HQ.out.below hb2).four
                clear hb2 HB HP HQ p0 p1 p2 p3 q0 q1 q2 q3 hCm
                go_wp2_with fail
                refine (hCo.out _).mono ?_
                rintro e w3 ⟨rfl, hb3⟩
                have HB3 := Lib.hid (btr HB2.out hb3)
                clear hb3 HB2 r0 r1 r2 r3 s0 s1 s2 s3 hCo
                go_wp2_with fail
                go_ret
                exact ⟨congrArg (fun r => Ending.returned (Value.int .i64 r)) HU.out.symm, HB3.out⟩
        · have HU : Hid (R = 0) := HR2.out.trans (hh.out.trans (upP_last (by have := HN.out; omega)))
          have hkk : ¬ (m : Int) + 1 < (k : Int) := by omega
          clear hh HR2
          go_wp2_with fail
          go_ret
          exact ⟨congrArg (fun r => Ending.returned (Value.int .i64 r)) HU.out.symm, hb.out⟩
end Go.Proofs.YtclnfkohlklbpaaGreat
