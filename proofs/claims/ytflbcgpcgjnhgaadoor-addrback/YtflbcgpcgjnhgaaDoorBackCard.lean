/- AddrBack: whatever address and whatever text it is handed, it answers true, and both read as they did. Under the row's own conditions alone: the listed variables of Go's library start as its text lays them (the card ties them to that text). -/
import Derived.Test.YtflbcgpcgjnhgaaDoorBack2
import Derived.Test.YtflbcgpcgjnhgaaDoorOpen
import Derived.Test.YtflbcgpcgjnhgaaDoorTie
import Derived.Test.YtflbcgpcgjnhgaaDoorCards
import Derived.SevenTiedAt
import Derived.ChangeMaps5
set_option linter.unusedVariables false
set_option linter.unusedSimpArgs false
namespace Go.Proofs.YtflbcgpcgjnhgaaDoor
open Go.ChangeShapes Go.WideShapes Go.ChangeAt Go.WideMaps Go.WideElems Go.RowKit

theorem back_law (va : Bool) (ah al : Int) (s : ByteArray) (w : World) (hg : Good w) (a1 : Wd ah) (a2 : Wd al) :
    Calls Tryd.prog 4 #[.agg #[.bool va, .int .u64 ah, .int .u64 al], .string s] w fun e w' => e = .returned (.bool true) ∧ Below w.heap.size w w' := by
  have hP : ∀ (v : Bool) (h l : Int), Wd h → Wd l → Hid (∀ w : World, Good w → Calls Tryd.prog 6 #[.agg #[.bool v, .int .u64 h, .int .u64 l]] w fun e w' => e = .returned (.tuple #[.string ⟨(ptxt v h l).toArray⟩, .int .i64 (chk v h l)]) ∧ Below w.heap.size w w') :=
    fun v h l p1 p2 w hg => print_any v h l w hg p1.1 p1.2 p2.1 p2.2
  have hQ : ∀ (v : Bool) (h l : Int), Wd h → Wd l → chk v h l = 0 → Hid (∀ w : World, Good w → Calls Tryd.prog 7 #[.string ⟨(ptxt v h l).toArray⟩] w fun e w' => e = .returned (.tuple #[.agg #[.bool v, .int .u64 h, .int .u64 l], .int .i64 0]) ∧ Below w.heap.size w w') := by
    intro v h l p1 p2 c w hg
    have := parse_any ⟨(ptxt v h l).toArray⟩ w hg
    rw [show (⟨(ptxt v h l).toArray⟩ : ByteArray).data.toList = ptxt v h l from rfl, (back_any v h l p1.1 p1.2 p2.1 p2.2 c).1] at this
    simp only [prV, prE] at this
    rw [Int.toNat_of_nonneg p1.1, Int.toNat_of_nonneg p2.1] at this
    exact this
  have h3 : Hid (∀ w : World, Good w → Calls Tryd.prog 7 #[.string s] w fun e w' => e = .returned (.tuple #[prV (rparse s.data.toList), .int .i64 (prE (rparse s.data.toList))]) ∧ Below w.heap.size w w') := fun w hg => parse_any s w hg
  have h1 := hP va ah al a1 a2
  cases hr : rparse s.data.toList with
  | none =>
    rw [hr] at h3
    rcases chk_cases va ah al with ⟨c, _⟩ | c
    · rw [c] at h1
      exact back_10 va va ah al ah al s _ s w hg h1 (hQ va ah al a1 a2 c) h3
    · rw [c] at h1
      exact back_00 va va ah al ah al s _ s w hg h1 h3
  | some p =>
    obtain ⟨vb, bh, bl⟩ := p
    rw [hr] at h3
    obtain ⟨cb, b1, b2⟩ := rparse_ok hr
    have w1 : Wd (bh : Int) := ⟨by omega, by omega⟩
    have w2 : Wd (bl : Int) := ⟨by omega, by omega⟩
    have h4 := hP vb bh bl w1 w2
    rw [cb] at h4
    have h6 : Hid (∀ w : World, Calls Tryd.prog 15 #[.agg #[.bool vb, .int .u64 (bh : Int), .int .u64 (bl : Int)]] w fun e w' => e = .returned (.int .i64 0) ∧ ∃ c, w' = w.alloc (.cells c 24)) := by
      intro w
      have := check_any vb bh bl w w1.1 w2.1
      rw [cb] at this
      exact this
    have hu : (⟨(ptxt vb bh bl).toArray⟩ : ByteArray).size ≤ 39 := by
      have := (back_any vb bh bl w1.1 w1.2 w2.1 w2.2 cb).2
      rw [Lib.size_eq]
      exact this
    rcases chk_cases va ah al with ⟨c, _⟩ | c
    · rw [c] at h1
      exact back_11 va vb ah al bh bl s _ _ w hg h1 (hQ va ah al a1 a2 c) h3 h4 (hQ vb bh bl w1 w2 cb) h6 hu
    · rw [c] at h1
      exact back_01 va vb ah al bh bl s _ _ w hg h1 h3 h4 (hQ vb bh bl w1 w2 cb) h6 hu

set_option maxRecDepth 100000 in
theorem back_lifted (os : Os) (started : os.Started) (H : Type) (enc : TypeId × Value → H) :
    ReturnsInHanded {} Tryd.checked os 4 .any (fun w args => (Rows.addrBackSpec.pre enc Tryd.prog Tryd.f4 [] false w args ∧ laidMetH Tryd.prog laidAllVars w) ∧ sizedMet enc Tryd.prog Tryd.f4 (OpenSpec.ofChange Rows.addrBackSpec) false w args)
      (Rows.addrBackSpec.post enc Tryd.prog Tryd.f4 false true false false) := by
  refine returns_laid_shaped (C := Tryd.checked) (X := fun w _ => laidMetH Tryd.prog laidAllVars w) (fun _ _ _ hh h => h.of_heap hh) own started (by kernel_rfl) Tryd.func4
    (ChangeSpec.witness_shaped (enc := enc) (C := Tryd.checked) (os := os) (X := fun w _ => laidMetH Tryd.prog laidAllVars w) false (World.laidAll Tryd.prog os laidAllVars) #[.agg #[.bool false, .int .u64 0, .int .u64 0], .string ⟨#[]⟩] 8 (World.laidAll_os _ _ _)
      (World.shaped_of_ZipB (by kernel_rfl) (by kernel_rfl)) (by kernel_rfl) (by kernel_rfl) (by kernel_rfl)
      (by rw [MakeChecks.laidMetH_plain _ _ _ (by kernel_rfl)]; exact laidMet_laidAll _ (by kernel_rfl) (by kernel_rfl))) ?_
  intro W base args ds gs before hval0 hW hL hsh
  have hval : ∀ (j : Nat) t v, Tryd.f4.params[j]? = some t → args[j]? = some v → Value.okWide Tryd.prog W .any base t v := hval0
  have hW' := hW
  obtain ⟨p, q, hA0, hV, rfl, _, _⟩ := hW
  have hA : DataW.TrodAll enc Tryd.prog W 0 (fun _ => true) true Tryd.f4.params.toList args.toList ds p := hA0
  rw [Tryd.params4] at hA hval
  obtain ⟨v0, v1, d0, d1, p0, p1, rfl, rfl, rfl, h0, h1⟩ := trodAll_two hA
  obtain ⟨rfl, rfl⟩ := trodVars_none hV
  obtain ⟨va, ah, al, rfl, rfl, rfl, a1, a2, a3, a4⟩ := open_addr (hval 0 24 v0 rfl rfl) h0
  obtain ⟨s, rfl, rfl, rfl, hs⟩ := Go.ChangeMaps.open_string Tryd.underlying9 (hval 1 9 v1 rfl rfl) h1
  simp only [List.append_nil] at hW'
  refine (back_law va ah al s W (good_of hL hsh) a1 a2).mono fun e W' ⟨he, hb⟩ => ?_
  subst he
  exact ⟨_, rfl, _, _, _, [], [], [], hW', trodAll_mk1 (shut_bool Tryd.underlying4 _), trodAll_mk2 (shut_addr va ah al a3 a4) (Go.ChangeMaps.shut_string Tryd.underlying9 hs), rfl, hb.frame _, fun h => by cases h⟩

theorem back_holds : Rows.AddrBackSaid :=
  OpenClaim.holds_of_wide 4 Tryd.f4 rfl rfl rfl rfl rfl rfl rfl ⟨rfl, rfl, rfl, rfl, rfl⟩ rfl rfl rfl rfl rfl (by kernel_rfl) Tryd.func4 (by kernel_rfl)
    (of_decide_eq_true (by kernel_rfl)) (by unfold Func.isWrapper; first | (rw [if_pos (by decide +kernel)]; kernel_rfl) | (rw [if_neg (by decide +kernel)]; exact ⟨rfl, rfl⟩))
    (fun os started H enc _ => back_lifted os started H enc)

theorem back_card : Rows.AddrBackCardSaid :=
  Claim7.holds_tied_plain_at .later [] [.data, .data, .data, .data, .sentinel, .sentinel, .pinned] true Rows.addrBackCard.stood.harness true
    back_holds (fun _ h => by cases h) (by kernel_rfl) (fun _ h => by cases h) addrBack_row_tie rfl ⟨rfl, rfl⟩ (by kernel_rfl) rfl
    (fun f fn hf hfn => by
      obtain rfl : f = 4 := Option.some.inj ((show Tryd.prog.funcNamed "yardarm/yardarmlaw.AddrBack" = some 4 by kernel_rfl).symm.trans hf) |>.symm
      obtain rfl : fn = Tryd.f4 := (Option.some.inj (Tryd.func4.symm.trans hfn)).symm
      exact ⟨by kernel_rfl, fun j t ht => by
        rw [Tryd.params4] at ht
        rcases j with _ | _ | j
        · obtain rfl : 24 = t := by simpa using ht
          exact (show Tryd.prog.wantsStandIn 24 = false by kernel_rfl)
        · obtain rfl : 9 = t := by simpa using ht
          exact (show Tryd.prog.wantsStandIn 9 = false by kernel_rfl)
        · simp at ht⟩)
    (by kernel_rfl)
end Go.Proofs.YtflbcgpcgjnhgaaDoor
