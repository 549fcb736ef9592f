/- Numbers in texts, without Go: what strconv's ParseUint reads of a text of digits, by base and greatest value. -/
namespace Go.Proofs.YtghbonlignmdoaaGreatDoor

/-- The digit that a byte is, of whatever base; 99: none. -/
def dig (c : UInt8) : Nat :=
  if 48 ≤ c.toNat ∧ c.toNat ≤ 57 then c.toNat - 48 else if 97 ≤ (c.toNat ||| 32) ∧ (c.toNat ||| 32) ≤ 122 then (c.toNat ||| 32) - 87 else 99

/-- Read on from acc: the number; or 2 (no digit), or 1 (too great). -/
def pu (base mx acc : Nat) : List UInt8 → Except Nat Nat
  | [] => .ok acc
  | c :: r => if base ≤ dig c then .error 2 else if mx < acc * base + dig c then .error 1 else pu base mx (acc * base + dig c) r

theorem or_low (c : Nat) (h : c < 256) : (c ||| 32) < 256 := Nat.or_lt_two_pow (n := 8) h (by decide)

end Go.Proofs.YtghbonlignmdoaaGreatDoor
