/- slices.Clone at entries. -/
import Derived.Test.YtclnfkohlklbpaaLgC
import Derived.Shelf.Abstract
set_option linter.unusedVariables false
set_option linter.unusedSimpArgs false
namespace Go.Proofs.Ytclnfkohlklbpaa
open Go.RowKit

theorem infoE : (Try.prog.info? 44).map (fun i => (i.zero, i.size, i.bytes)) = some (some (.agg #[.int .i64 0, .int .i64 0, .int .i64 0, .bool false, .int .u64 0, .int .u64 0, .int .i64 0, .bool false, .int .u64 0, .int .u64 0, .string ⟨#[]⟩, .int .i64 0, .int .i64 0]), 13, 112) := by kernel_rfl
theorem rowE_empty (w : World) : (w.alloc (.cells #[] 44)).ownsRow w.heap.size 44 13 (.slice (some ⟨w.heap.size, 0, none⟩) 0 0) 0 [] :=
  ⟨by simp, .inr ⟨w.heap.size, 0, #[], rfl, Nat.le_refl _, heap_alloc_new w _, Nat.le_refl _, Nat.zero_le _, by simp, by simp⟩⟩
set_option maxHeartbeats 4000000 in
set_option maxRecDepth 100000 in
theorem cloneE_any (a : Option Addr) (c : Nat) (l : List En) (w : World) (hl : l.length ≤ 1000) (hs : Lies enE w a l) :
    Calls Try.prog 12 #[.slice a l.length c] w fun e w' => ∃ v', e = .returned v' ∧ w'.ownsRow w.heap.size 44 enE.k v' l.length (rowOf enE l) ∧ Below w.heap.size w w' := by
  have q22 : ∀ (w : World) (a : Option Addr) (n c n' c' : Nat), (binOp .eql 22 (.slice a n c) (.slice none n' c')).run Try.prog w = .ok (.bool a.isNone) w := fun w a n c n' c' => Lib.run_eql_slice_nil w _ _ a n c n' c' Try.underlying22
  cases a with
  | none =>
    obtain rfl := hs.none_nil
    show Calls _ _ #[.slice none 0 c] _ _
    clear hs
    go_enter Try.func12, Try.ntmps12
    go_wp2
    go_ret
    exact ⟨_, rfl, World.ownsRow_nil _ _ _ _, Below.refl _ _⟩
  | some ad =>
    obtain ⟨i0, hi0, hz0, hz1, hz2⟩ := info_parts infoE
    have hnews : ∀ j u, (rowOf enE l)[j]? = some u → (w.alloc (.cells #[] 44)).cell? (ad.add j) = some u := (hs.below (bal (Below.refl _ _) _)).news
    have HNews := Lib.hid hnews
    have HRl := Lib.hid (rowOf_len enE l)
    have HR1 := Lib.hid (rowOf_one enE l)
    obtain ⟨row, hrow⟩ : ∃ row, row = rowOf enE l := ⟨_, rfl⟩
    obtain ⟨N, hN⟩ : ∃ N, N = l.length := ⟨_, rfl⟩
    rw [← hrow] at HNews HRl HR1 ⊢
    rw [← hN] at HRl hl ⊢
    clear hnews hs hrow hN
    go_enter Try.func12, Try.ntmps12
    go_wp2_with (at_builtin; refine wpList_append_own _ rfl _ _ 22 rfl w.heap.size 44 i0 _ 13 112 Try.underlying22 hi0 hz0 hz1 hz2 rfl (by decide) _ _ _ rfl (rowE_empty w) ad N c row rfl HRl.out HNews.out HR1.out (by unfold maxLen; omega) (by omega) (by simp) ?_)
    intro v' w4 hown hgrow _
    have HB : Hid (Below w.heap.size w w4) := (bal (Below.refl _ _) _).grown hgrow (by simp) (fun k hk => ((rowE_empty w).lt k hk).1)
    have HO : Hid (w4.ownsRow w.heap.size 44 13 v' N row) := hown
    clear hown hgrow
    go_wp2
    go_ret
    exact ⟨_, rfl, HO.out, HB.out⟩
end Go.Proofs.Ytclnfkohlklbpaa
