/- AddrOrder: whatever three addresses it is handed, it answers true, and the addresses read as they did. Under the row's own conditions alone: the listed variables of Go's library start as its text lays them (the card ties them to that text). -/
import Derived.Test.YtflbcgpcgjnhgaaDoorOrder
import Derived.Test.YtflbcgpcgjnhgaaDoorLift
import Derived.Test.YtflbcgpcgjnhgaaDoorTie
import Derived.Test.YtflbcgpcgjnhgaaDoorCards
import Derived.SevenTiedAt
namespace Go.Proofs.YtflbcgpcgjnhgaaDoor
open Go.ChangeShapes Go.WideShapes Go.ChangeAt Go.WideMaps Go.WideElems Go.RowKit

theorem wd_of {x : Int} (h : (Lit.int .u64 x).wf = true) : Wd x := by
  have : 0 ≤ x ∧ x ≤ 18446744073709551615 := by simpa [Lit.wf, IntKind.min, IntKind.max, IntKind.signed, IntKind.bits] using h
  exact ⟨this.1, by omega⟩

set_option maxRecDepth 100000 in
/-- An address that came in, opened. -/
theorem open_addr {H : Type} {enc : TypeId × Value → H} {W : World} {base : Nat} {v : Value} {d : DataW H} {p : List MemPlace}
    (hv : Value.okWide Tryd.prog W .any base 24 v) (h : DataW.Trod enc Tryd.prog W 0 (fun _ => true) true 24 v d p) :
    ∃ (x : Bool) (y z : Int), v = .agg #[.bool x, .int .u64 y, .int .u64 z] ∧ d = .agg [.lit (.bool x), .lit (.int .u64 y), .lit (.int .u64 z)] ∧ p = [] ∧ Wd y ∧ Wd z ∧ (Lit.int .u64 y).wf = true ∧ (Lit.int .u64 z).wf = true := by
  obtain ⟨v0, v1, v2, y0, y1, y2, n, rfl, rfl, rfl, h0, h1, h2⟩ := Go.Joins.open_agg3 Tryd.underlying24 (by kernel_rfl) (by kernel_rfl) hv h
  obtain ⟨b, e0, rfl⟩ := DataW.trod_bool Tryd.underlying4 h0
  obtain ⟨i, e1, rfl, w1⟩ := DataW.trod_int Tryd.underlying22 h1
  obtain ⟨j, e2, rfl, w2⟩ := DataW.trod_int Tryd.underlying22 h2
  simp at e0 e1 e2
  subst e0 e1 e2
  exact ⟨b, i, j, rfl, rfl, rfl, wd_of w1, wd_of w2, w1, w2⟩

set_option maxRecDepth 100000 in
theorem shut_addr {H : Type} {enc : TypeId × Value → H} {W : World} {sp : Nat → Bool} {held : Bool} {base : Nat} (x : Bool) (y z : Int) (h1 : (Lit.int .u64 y).wf = true) (h2 : (Lit.int .u64 z).wf = true) :
    DataW.Trod enc Tryd.prog W base sp held 24 (.agg #[.bool x, .int .u64 y, .int .u64 z]) (.agg [.lit (.bool x), .lit (.int .u64 y), .lit (.int .u64 z)]) [] := by
  have := Go.Joins.shut_agg3 (enc := enc) (P := Tryd.prog) (w := W) (base := base) (spare := sp) (held := held) (v0 := .bool x) (v1 := .int .u64 y) (v2 := .int .u64 z) (y0 := (.lit (.bool x), [])) (y1 := (.lit (.int .u64 y), [])) (y2 := (.lit (.int .u64 z), [])) Tryd.underlying24 (by kernel_rfl) (by kernel_rfl)
    ⟨1, by simp [DataW.trod, Tryd.underlying4]⟩ ⟨1, by simp [DataW.trod, Tryd.underlying22, h1]⟩ ⟨1, by simp [DataW.trod, Tryd.underlying22, h2]⟩
  exact this

set_option maxRecDepth 100000 in
theorem order_lifted (os : Os) (started : os.Started) (H : Type) (enc : TypeId × Value → H) :
    ReturnsInHanded {} Tryd.checked os 5 .any (fun w args => (Rows.addrOrderSpec.pre enc Tryd.prog Tryd.f5 [] false w args ∧ laidMetH Tryd.prog laidAllVars w) ∧ sizedMet enc Tryd.prog Tryd.f5 (OpenSpec.ofChange Rows.addrOrderSpec) false w args)
      (Rows.addrOrderSpec.post enc Tryd.prog Tryd.f5 false true false false) := by
  refine returns_laid_shaped (C := Tryd.checked) (X := fun w _ => laidMetH Tryd.prog laidAllVars w) (fun _ _ _ hh h => h.of_heap hh) own started (by kernel_rfl) Tryd.func5
    (ChangeSpec.witness_shaped (enc := enc) (C := Tryd.checked) (os := os) (X := fun w _ => laidMetH Tryd.prog laidAllVars w) false (World.laidAll Tryd.prog os laidAllVars) #[.agg #[.bool false, .int .u64 0, .int .u64 0], .agg #[.bool false, .int .u64 0, .int .u64 0], .agg #[.bool false, .int .u64 0, .int .u64 0]] 8 (World.laidAll_os _ _ _)
      (World.shaped_of_ZipB (by kernel_rfl) (by kernel_rfl)) (by kernel_rfl) (by kernel_rfl) (by kernel_rfl)
      (by rw [MakeChecks.laidMetH_plain _ _ _ (by kernel_rfl)]; exact laidMet_laidAll _ (by kernel_rfl) (by kernel_rfl))) ?_
  intro W base args ds gs before hval0 hW hL hsh
  have hval : ∀ (j : Nat) t v, Tryd.f5.params[j]? = some t → args[j]? = some v → Value.okWide Tryd.prog W .any base t v := hval0
  have hW' := hW
  obtain ⟨p, q, hA0, hV, rfl, _, _⟩ := hW
  have hA : DataW.TrodAll enc Tryd.prog W 0 (fun _ => true) true Tryd.f5.params.toList args.toList ds p := hA0
  rw [Tryd.params5] at hA hval
  obtain ⟨v0, v1, v2, d0, d1, d2, p0, p1, p2, rfl, rfl, rfl, h0, h1, h2⟩ := trodAll_three hA
  obtain ⟨rfl, rfl⟩ := trodVars_none hV
  obtain ⟨va, ah, al, rfl, rfl, rfl, a1, a2, a3, a4⟩ := open_addr (hval 0 24 v0 rfl rfl) h0
  obtain ⟨vb, bh, bl, rfl, rfl, rfl, b1, b2, b3, b4⟩ := open_addr (hval 1 24 v1 rfl rfl) h1
  obtain ⟨vc, ch, cl, rfl, rfl, rfl, c1, c2, c3, c4⟩ := open_addr (hval 2 24 v2 rfl rfl) h2
  simp only [List.append_nil] at hW'
  refine (order_any va vb vc ah al bh bl ch cl W (good_of hL hsh) a1 a2 b1 b2 c1 c2).mono fun e W' ⟨he, hb⟩ => ?_
  subst he
  exact ⟨_, rfl, _, _, _, [], [], [], hW', trodAll_mk1 (shut_bool Tryd.underlying4 _), trodAll_mk3 (shut_addr va ah al a3 a4) (shut_addr vb bh bl b3 b4) (shut_addr vc ch cl c3 c4), rfl, hb.frame _, fun h => by cases h⟩

theorem order_holds : Rows.AddrOrderSaid :=
  OpenClaim.holds_of_wide 5 Tryd.f5 rfl rfl rfl rfl rfl rfl rfl ⟨rfl, rfl, rfl, rfl, rfl⟩ rfl rfl rfl rfl rfl (by kernel_rfl) Tryd.func5 (by kernel_rfl)
    (of_decide_eq_true (by kernel_rfl)) (by unfold Func.isWrapper; first | (rw [if_pos (by decide +kernel)]; kernel_rfl) | (rw [if_neg (by decide +kernel)]; exact ⟨rfl, rfl⟩))
    (fun os started H enc _ => order_lifted os started H enc)

theorem order_card : Rows.AddrOrderCardSaid :=
  Claim7.holds_tied_plain_at .later [] [.data, .data, .data, .data, .sentinel, .sentinel, .pinned] true Rows.addrOrderCard.stood.harness true
    order_holds (fun _ h => by cases h) (by kernel_rfl) (fun _ h => by cases h) addrOrder_row_tie rfl ⟨rfl, rfl⟩ (by kernel_rfl) rfl
    (fun f fn hf hfn => by
      obtain rfl : f = 5 := Option.some.inj ((show Tryd.prog.funcNamed "yardarm/yardarmlaw.AddrOrder" = some 5 by kernel_rfl).symm.trans hf) |>.symm
      obtain rfl : fn = Tryd.f5 := (Option.some.inj (Tryd.func5.symm.trans hfn)).symm
      exact ⟨by kernel_rfl, fun j t ht => by
        rw [Tryd.params5] at ht
        have h3 : t = 24 := by
          rcases j with _ | _ | _ | j
          · simpa using ht.symm
          · simpa using ht.symm
          · simpa using ht.symm
          · simp at ht
        subst h3
        exact (show Tryd.prog.wantsStandIn 24 = false by kernel_rfl)⟩)
    (by kernel_rfl)
end Go.Proofs.YtflbcgpcgjnhgaaDoor
