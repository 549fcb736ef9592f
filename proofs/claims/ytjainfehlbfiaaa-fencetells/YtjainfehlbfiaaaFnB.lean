/- keeper.lookLog, fence.Check: is a disk right? -/
import Derived.Test.YtjainfehlbfiaaaFnA
set_option linter.unusedVariables false
set_option linter.unusedSimpArgs false
namespace Go.Proofs.Ytjainfehlbfiaaa
open Go.RowKit

theorem enters_look1 : ∀ args w, (callFunc 32 args).run Try.prog w = .ok (.enter 32 args) w := by intro args w; rfl
set_option maxHeartbeats 8000000 in
theorem look1_any (q kb : Nat) (ep h u : Int) (lv : Value) (x : En) (w : World) (hq : w.cell? ⟨q, 0, none⟩ = some (.pointer (some ⟨kb, 0, none⟩))) (hlt : q < w.heap.size) (hk : KpAt w kb ep h u lv) :
    Calls Try.prog 32 #[.agg #[.int .i64 x.num, .int .i64 x.ep, .int .i64 x.o.k, .bool x.o.p.v, .int .u64 x.o.p.hi, .int .u64 x.o.p.lo, .int .i64 x.o.p.b, .bool x.o.a.v, .int .u64 x.o.a.hi, .int .u64 x.o.a.lo, .string x.o.who, .int .i64 x.o.pof, .int .i64 x.o.n], .pointer (some ⟨q, 0, none⟩)] w fun e w' => e = .returned (.bool (decide (ep < x.ep))) ∧ Below w.heap.size w w' := by
  have hb := bal (Below.refl w.heap.size w) (.cells #[.int .i64 x.num, .int .i64 x.ep, .int .i64 x.o.k, .bool x.o.p.v, .int .u64 x.o.p.hi, .int .u64 x.o.p.lo, .int .i64 x.o.p.b, .bool x.o.a.v, .int .u64 x.o.a.hi, .int .u64 x.o.a.lo, .string x.o.who, .int .i64 x.o.pof, .int .i64 x.o.n] 51)
  have HB := Lib.hid hb
  obtain ⟨⟨k0, _⟩, _⟩ := hk.cells
  have hkl := hk.lt
  rw [← (bcell hb).1 _ _ hlt] at hq
  rw [← (bcell hb).1 _ _ hkl] at k0
  clear hk hb
  generalize x.num = x0 at *
  generalize x.ep = x1 at *
  generalize x.o.k = x2 at *
  generalize x.o.p.v = x3 at *
  generalize x.o.p.hi = x4 at *
  generalize x.o.p.lo = x5 at *
  generalize x.o.p.b = x6 at *
  generalize x.o.a.v = x7 at *
  generalize x.o.a.hi = x8 at *
  generalize x.o.a.lo = x9 at *
  generalize x.o.who = x10 at *
  generalize x.o.pof = x11 at *
  generalize x.o.n = x12 at *
  go_enter Try.func32, Try.ntmps32
  go_wp2_with fail
  go_region
  go_wp2
  go_ret
  exact ⟨rfl, HB.out.drew⟩
/-- What is wrong with a disk's log. -/
def dlogE (ep : Int) (l : List En) : Int := if logE l = 0 then (if (l.any fun n => decide (ep < n.ep)) = true then 4 else 0) else logE l
theorem logE_len {l : List En} (h : logE l = 0) : l.length ≤ 30 := by
  unfold logE at h
  by_cases hl : 30 < l.length
  · rw [if_pos hl] at h; omega
  · omega
set_option maxHeartbeats 8000000 in
theorem lookLog_any (kb : Nat) (ep h u : Int) (a : Option Addr) (c : Nat) (l : List En) (w : World) (hk : KpAt w kb ep h u (.slice a l.length c)) (hc : l.length ≤ c) (hs : Lies enE w a l) :
    Calls Try.prog 23 #[.pointer (some ⟨kb, 0, none⟩)] w fun e w' => e = .returned (.int .i64 (dlogE ep l)) ∧ Below w.heap.size w w' := by
  obtain ⟨W1, hW1⟩ : ∃ W1, W1 = w.alloc (.cells #[.pointer (some ⟨kb, 0, none⟩)] 62) := ⟨_, rfl⟩
  have hb1 : Below w.heap.size w W1 := by rw [hW1]; exact bal (Below.refl w.heap.size w) _
  have hq1 : HasL W1 w.heap.size 0 [.pointer (some ⟨kb, 0, none⟩)] := by rw [hW1]; exact HasL.new w _ _
  obtain ⟨⟨k0, k1, k2, k3⟩, kf⟩ := (hk.below hb1).cells
  clear k1 k2 kf
  have q0 : W1.cell? ⟨w.heap.size, 0, none⟩ = some (.pointer (some ⟨kb, 0, none⟩)) := hq1.1 0 _ rfl
  have HC := Lib.hid (lcheck_any a c l W1 hc (hs.below hb1))
  have HF : Hid (logE l = 0 → ∀ W, Below W1.heap.size W1 W → Calls Try.prog 31 #[.slice a l.length c, .func (.func 32) #[] #[.pointer (some ⟨w.heap.size, 0, none⟩)]] W fun e w' => e = .returned (.bool (l.any fun n => decide (ep < n.ep))) ∧ Below W.heap.size W w') := fun h0 W hW => by
    have hwW := btr hb1 hW
    refine conE_any a c l W 32 #[.pointer (some ⟨w.heap.size, 0, none⟩)] _ (by have := logE_len h0; omega) (hs.below hwW) enters_look1 (fun V y hy hV => ?_)
    have hwV := btr hwW hV
    exact (look1_any w.heap.size kb ep h u _ y V (by rw [(bcell (btr hW hV)).1 _ _ hq1.2]; exact q0) (Nat.lt_of_lt_of_le hq1.2 (btr hW hV).size) (hk.below hwV)).mono fun e w' h => ⟨h.1, btr hV h.2⟩
  have hkl := (hk.below hb1).lt
  have hql := hq1.2
  have HB1 := Lib.hid hb1
  unfold dlogE
  rw [hW1] at HC HF k0 k3 q0 HB1 hkl hql
  clear hb1 hq1 hW1 hk hs hc W1
  generalize (l.any fun n => decide (ep < n.ep)) = b at *
  generalize logE l = r at *
  generalize l.length = N at *
  by_cases hr : r = 0
  · subst hr
    rw [if_pos rfl]
    replace HF := Lib.hid (HF.out rfl)
    cases b
    · rw [if_neg (by decide)]
      go_enter Try.func23, Try.ntmps23
      go_wp2_with fail
      refine HC.out.mono ?_
      rintro e w2 ⟨rfl, hb2⟩
      rw [← (bcell hb2).1 _ _ hkl] at k0 k3
      rw [← (bcell hb2).1 _ _ hql] at q0
      have HB2 := Lib.hid hb2
      clear hb2 HC
      go_wp2_with fail
      refine (HF.out _ HB2.out).mono ?_
      rintro e w3 ⟨rfl, hb3⟩
      go_wp2
      go_ret
      exact ⟨rfl, btr (btr HB1.out HB2.out) hb3⟩
    · rw [if_pos rfl]
      go_enter Try.func23, Try.ntmps23
      go_wp2_with fail
      refine HC.out.mono ?_
      rintro e w2 ⟨rfl, hb2⟩
      rw [← (bcell hb2).1 _ _ hkl] at k0 k3
      rw [← (bcell hb2).1 _ _ hql] at q0
      have HB2 := Lib.hid hb2
      clear hb2 HC
      go_wp2_with fail
      refine (HF.out _ HB2.out).mono ?_
      rintro e w3 ⟨rfl, hb3⟩
      go_wp2
      go_ret
      exact ⟨rfl, btr (btr HB1.out HB2.out) hb3⟩
  · rw [if_neg hr]
    have hI : (r != 0) = true := by rw [bne_iff_ne]; exact hr
    clear hr HF
    go_enter Try.func23, Try.ntmps23
    go_wp2_with fail
    refine HC.out.mono ?_
    rintro e w2 ⟨rfl, hb2⟩
    go_wp2
    go_ret
    exact ⟨rfl, btr HB1.out hb2⟩
/-- What is wrong with a disk. -/
def diskE (ep h u : Int) (l : List En) : Int := if lockE ep h u = 0 then dlogE ep l else lockE ep h u
set_option maxHeartbeats 8000000 in
theorem fcheck_any (ep h u : Int) (a : Option Addr) (c : Nat) (l : List En) (w : World) (hc : l.length ≤ c) (hs : Lies enE w a l) :
    Calls Try.prog 11 #[.agg #[.int .i64 ep, .int .i64 h, .int .i64 u, .slice a l.length c]] w fun e w' => e = .returned (.int .i64 (diskE ep h u l)) ∧ Below w.heap.size w w' := by
  obtain ⟨W1, hW1⟩ : ∃ W1, W1 = (w.alloc (.cells #[.int .i64 ep, .int .i64 h, .int .i64 u, .slice a l.length c] 26)).alloc (.cells #[.int .i64 ep, .int .i64 h, .int .i64 u, .slice a l.length c] 47) := ⟨_, rfl⟩
  have hb1 : Below w.heap.size w W1 := by rw [hW1]; exact bal (bal (Below.refl w.heap.size w) _) _
  have hk : KpAt W1 (w.heap.size + 1) ep h u (.slice a l.length c) := by
    rw [hW1]
    have := KpAt.new (w.alloc (.cells #[.int .i64 ep, .int .i64 h, .int .i64 u, .slice a l.length c] 26)) ep h u (.slice a l.length c)
    simpa using this
  have HLk := Lib.hid (lookLock_any (w.heap.size + 1) ep h u _ W1 hk)
  have HLl := Lib.hid (lookLog_any (w.heap.size + 1) ep h u a c l W1 hk hc (hs.below hb1))
  have HB1 := Lib.hid hb1
  unfold diskE
  rw [hW1] at HLk HLl HB1
  clear hb1 hk hs hc hW1 W1
  generalize lockE ep h u = r at *
  generalize dlogE ep l = r2 at *
  generalize l.length = N at *
  by_cases hr : r = 0
  · subst hr
    rw [if_pos rfl]
    go_enter Try.func11, Try.ntmps11
    go_wp2_with fail
    refine HLk.out.mono ?_
    rintro e w2 ⟨rfl, rfl⟩
    go_wp2_with fail
    refine HLl.out.mono ?_
    rintro e w3 ⟨rfl, hb3⟩
    go_wp2
    go_ret
    exact ⟨rfl, btr HB1.out hb3⟩
  · rw [if_neg hr]
    have hI : (r != 0) = true := by rw [bne_iff_ne]; exact hr
    clear hr HLl
    go_enter Try.func11, Try.ntmps11
    go_wp2_with fail
    refine HLk.out.mono ?_
    rintro e w2 ⟨rfl, rfl⟩
    go_wp2
    go_ret
    exact ⟨rfl, HB1.out⟩
end Go.Proofs.Ytjainfehlbfiaaa
