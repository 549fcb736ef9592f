/- strconv.ParseUint, number.Read, addr.readGroup, addr.giveUp. -/
import Derived.Test.YtghbonlignmdoaaGreatDoorPu
import Derived.Test.YtghbonlignmdoaaGreatDoorPu10
import Derived.Test.YtghbonlignmdoaaGreatDoorGood
namespace Go.Proofs.YtghbonlignmdoaaGreatDoor
open Go.RowKit

/-- What giveUp panics with. -/
def gaveUp : List PanicEntry := [{ v := .iface 117 (.agg #[.int .i64 1]), recovered := false }]

theorem giveUp_any (w : World) : Calls Tryz.prog 73 #[] w fun e w' => e = .panicked gaveUp ∧ w' = w := by
  have hp : ∀ t v w, (Instr.panic (.iface t v)).run Tryz.prog w = .halt (.panic (.iface t v)) w := fun _ _ _ => rfl
  go_enter Tryz.func73, Tryz.ntmps73
  go_wp2
  exact ⟨rfl, rfl, rfl⟩

/-- ParseUint of a whole text. -/
def puS (base mx : Nat) (l : List UInt8) : Except Nat Nat := if l = [] then .error 2 else pu base mx 0 l
def puOk (r : Except Nat Nat) (x : Int) (v : Value) : Prop :=
  match r with
  | .ok n => x = n ∧ v = .nilIface
  | .error _ => ∃ N, v = .iface 139 (.pointer (some ⟨N, 0, none⟩))

set_option maxHeartbeats 4000000 in
set_option maxRecDepth 100000 in
theorem ipu_empty (b s : Int) (w : World) :
    Calls Tryz.prog 77 #[.string ⟨#[]⟩, .int .i64 b, .int .i64 s] w fun e w' => e = .returned (puT 0 (.error 2)) ∧ w' = w := by
  go_enter Tryz.func77, Tryz.ntmps77
  go_wp2
  go_ret2
  exact ⟨rfl, rfl⟩

theorem pu_err {base mx : Nat} : ∀ (l : List UInt8) (acc k : Nat), pu base mx acc l = .error k → k = 1 ∨ k = 2
  | [], acc, k, h => by simp [pu] at h
  | c :: r, acc, k, h => by
    rw [pu] at h
    split at h
    · injection h with h; omega
    · split at h
      · injection h with h; omega
      · exact pu_err r _ _ h

theorem bytes_below (w : World) (t : ByteArray) : Below w.heap.size w (Lib.bytesWorld w 5 t) :=
  ⟨rfl, rfl, rfl, by rw [Lib.bytesWorld_size]; omega, fun k hk => Lib.bytesWorld_at_old w _ t k hk⟩

theorem empty_of {s : ByteArray} (h : s.size = 0) : s = ⟨#[]⟩ := by
  obtain ⟨⟨l⟩⟩ := s; simp [ByteArray.size] at h; subst h; rfl

/-- strconv.ParseUint, given what the inner one hands back. -/
theorem pub_any (r : Except Nat Nat) (mx : Nat) (s : ByteArray) (b z : Int) (w : World) (hg : Good w) (hs : s.size ≤ 281474976710656) (hr : ∀ k, r = .error k → k = 1 ∨ k = 2)
    (hi : ∀ w, Calls Tryz.prog 77 #[.string s, .int .i64 b, .int .i64 z] w fun e w' => e = .returned (puT mx r) ∧ Below w.heap.size w w') :
    Calls Tryz.prog 62 #[.string s, .int .i64 b, .int .i64 z] w fun e w' => ∃ x v, e = .returned (.tuple #[.int .u64 x, v]) ∧ puOk r x v ∧ Below w.heap.size w w' := by
  have HI : Hid (∀ w, Calls Tryz.prog 77 #[.string s, .int .i64 b, .int .i64 z] w fun e w' => e = .returned (puT mx r) ∧ Below w.heap.size w w') := hi
  clear hi
  cases r with
  | ok n =>
    go_enter Tryz.func62, Tryz.ntmps62
    go_wp2_with fail
    refine (HI.out _).mono ?_
    rintro e w' ⟨rfl, hb⟩
    unfold puT
    go_wp2
    go_ret2
    exact ⟨_, _, rfl, ⟨rfl, rfl⟩, hb⟩
  | error k =>
    have hne : ∀ t v (w : World), (binOp .neq 99 (.iface t v) .nilIface).run Tryz.prog w = .ok (.bool true) w := by
      intro t v w; simp [go_sem]
    rcases hr k rfl with rfl | rfl
    · go_enter Tryz.func62, Tryz.ntmps62
      go_wp2_with fail
      refine (HI.out _).mono ?_
      rintro e w' ⟨rfl, hb⟩
      unfold puT
      obtain ⟨t, p, hc⟩ := (hg.below hb).rng
      have Hc : Hid (w'.cell? ⟨3, 0, none⟩ = some (.iface t p)) := hc
      clear hc
      go_wp2_with fail
      refine (Tryz.strconv_toError_range _ s b z (.iface t p) w' hs Hc.out (.inr ⟨t, p, rfl⟩)).mono ?_
      rintro e w2 ⟨N, rfl, _, _, hb2⟩
      go_wp2
      go_ret2
      exact ⟨_, _, rfl, ⟨N, rfl⟩, btr hb hb2⟩
    · go_enter Tryz.func62, Tryz.ntmps62
      go_wp2_with fail
      refine (HI.out _).mono ?_
      rintro e w' ⟨rfl, hb⟩
      unfold puT
      obtain ⟨t, p, hc⟩ := (hg.below hb).syn
      have Hc : Hid (w'.cell? ⟨2, 0, none⟩ = some (.iface t p)) := hc
      clear hc
      go_wp2_with fail
      refine (Tryz.strconv_toError_syntax _ s b z (.iface t p) w' hs Hc.out (.inr ⟨t, p, rfl⟩)).mono ?_
      rintro e w2 ⟨N, rfl, _, _, hb2⟩
      go_wp2
      go_ret2
      exact ⟨_, _, rfl, ⟨N, rfl⟩, btr hb hb2⟩

theorem puS_err {base mx : Nat} {l : List UInt8} (k : Nat) (h : puS base mx l = .error k) : k = 1 ∨ k = 2 := by
  unfold puS at h
  split at h
  · injection h with h; omega
  · exact pu_err l 0 k h

theorem pub16 (s : ByteArray) (w : World) (hg : Good w) (hs : s.size ≤ 281474976710656) :
    Calls Tryz.prog 62 #[.string s, .int .i64 16, .int .i64 16] w fun e w' => ∃ x v, e = .returned (.tuple #[.int .u64 x, v]) ∧ puOk (puS 16 65535 s.data.toList) x v ∧ Below w.heap.size w w' := by
  by_cases h : s.size = 0
  · rw [empty_of h]
    exact pub_any (.error 2) 0 _ 16 16 w hg (by simp [ByteArray.size]) (fun k h => .inr (by injection h with h; omega)) (fun w => (ipu_empty 16 16 w).mono (by rintro e w' ⟨rfl, rfl⟩; exact ⟨rfl, Below.refl _ _⟩))
  · have hne : s.data.toList ≠ [] := by intro h2; apply h; rw [Lib.size_eq, h2]; rfl
    refine pub_any (puS 16 65535 s.data.toList) 65535 s 16 16 w hg hs (fun k => puS_err k) (fun w => (ipu16 s h (by omega) w).mono ?_)
    rintro e w' ⟨rfl, rfl⟩
    exact ⟨by rw [puS, if_neg hne], bytes_below _ _⟩

theorem pub10 (s : ByteArray) (w : World) (hg : Good w) (hs : s.size ≤ 281474976710656) :
    Calls Tryz.prog 62 #[.string s, .int .i64 10, .int .i64 31] w fun e w' => ∃ x v, e = .returned (.tuple #[.int .u64 x, v]) ∧ puOk (puS 10 2147483647 s.data.toList) x v ∧ Below w.heap.size w w' := by
  by_cases h : s.size = 0
  · rw [empty_of h]
    exact pub_any (.error 2) 0 _ 10 31 w hg (by simp [ByteArray.size]) (fun k h => .inr (by injection h with h; omega)) (fun w => (ipu_empty 10 31 w).mono (by rintro e w' ⟨rfl, rfl⟩; exact ⟨rfl, Below.refl _ _⟩))
  · have hne : s.data.toList ≠ [] := by intro h2; apply h; rw [Lib.size_eq, h2]; rfl
    refine pub_any (puS 10 2147483647 s.data.toList) 2147483647 s 10 31 w hg hs (fun k => puS_err k) (fun w => (ipu10 s h (by omega) w).mono ?_)
    rintro e w' ⟨rfl, rfl⟩
    exact ⟨by rw [puS, if_neg hne], bytes_below _ _⟩
end Go.Proofs.YtghbonlignmdoaaGreatDoor
