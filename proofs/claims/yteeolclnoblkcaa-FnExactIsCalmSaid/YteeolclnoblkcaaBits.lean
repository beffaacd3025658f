/-
  What is proved: plain facts on the bits of small numbers, and how the model's int words go over to them. Conditions: the numbers are small.
-/
import Derived.Test.YteeolclnoblkcaaMem
namespace Go.Proofs.Yteeolclnoblkcaa

theorem bv_nat {a : Nat} (ha : a < 9223372036854775808) : (BitVec.ofInt 64 (a : Int)).toNat = a := by
  rw [BitVec.ofInt_natCast, BitVec.toNat_ofNat]; exact Nat.mod_eq_of_lt (by omega)
theorem bits_or_nat (a b : Nat) (ha : a < 9223372036854775808) (hb : b < 9223372036854775808) : Go.bits .or .i64 (a : Int) (b : Int) = ((a ||| b : Nat) : Int) := by
  have hx : a ||| b < 2 ^ 63 := Nat.or_lt_two_pow (by omega) (by omega)
  show IntKind.i64.wrap ((BitVec.ofInt 64 (a : Int) ||| BitVec.ofInt 64 (b : Int)).toNat : Int) = _
  rw [BitVec.toNat_or, bv_nat ha, bv_nat hb]
  exact IntWalk.i64_in _ (by omega)
theorem bits_and_nat (a b : Nat) (ha : a < 9223372036854775808) (hb : b < 9223372036854775808) : Go.bits .and .i64 (a : Int) (b : Int) = ((a &&& b : Nat) : Int) := by
  have hx : a &&& b < 2 ^ 63 := Nat.and_lt_two_pow _ (by omega)
  show IntKind.i64.wrap ((BitVec.ofInt 64 (a : Int) &&& BitVec.ofInt 64 (b : Int)).toNat : Int) = _
  rw [BitVec.toNat_and, bv_nat ha, bv_nat hb]
  exact IntWalk.i64_in _ (by omega)
theorem bits_xor_nat (a b : Nat) (ha : a < 9223372036854775808) (hb : b < 9223372036854775808) : Go.bits .xor .i64 (a : Int) (b : Int) = ((a ^^^ b : Nat) : Int) := by
  have hx : a ^^^ b < 2 ^ 63 := Nat.xor_lt_two_pow (by omega) (by omega)
  show IntKind.i64.wrap ((BitVec.ofInt 64 (a : Int) ^^^ BitVec.ofInt 64 (b : Int)).toNat : Int) = _
  rw [BitVec.toNat_xor, bv_nat ha, bv_nat hb]
  exact IntWalk.i64_in _ (by omega)

/-- Bit i of a number. -/
def bitAt (m i : Nat) : Bool := m.testBit i
theorem bitAt_def (m i : Nat) : bitAt m i = decide (m / 2 ^ i % 2 = 1) := Nat.testBit_eq_decide_div_mod_eq
theorem shr_nat (m i : Nat) : (m : Int) / 2 ^ i = ((m / 2 ^ i : Nat) : Int) := by push_cast; rfl
theorem bit_next (m i : Nat) : m / 2 ^ (i + 1) = m / 2 ^ i / 2 := by rw [Nat.pow_succ, Nat.div_div_eq_div_mul]
/-- Two bits, the lower one clear and the upper one set. -/
theorem two_bits (m i : Nat) : decide (m / 2 ^ i % 4 = 2) = (bitAt m (i + 1) && !bitAt m i) := by
  rw [bitAt_def, bitAt_def, bit_next]
  generalize m / 2 ^ i = x
  rw [Bool.eq_iff_iff]
  simp
  omega
theorem or_bit (m k i : Nat) : bitAt (m ||| 2 ^ k) i = (bitAt m i || decide (k = i)) := by
  simp [bitAt, Nat.testBit_or, Nat.testBit_two_pow]
end Go.Proofs.Yteeolclnoblkcaa
