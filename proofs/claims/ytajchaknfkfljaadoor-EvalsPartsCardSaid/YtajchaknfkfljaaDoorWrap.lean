
/- Plain arithmetic modulo 2^64: no program is imported. -/
import Derived.RowKit
namespace Go.Proofs.YtajchaknfkfljaaDoor
open Go.RowKit

theorem wrap64_ex (x : Int) : ∃ q : Int, wrap64 x = x + 18446744073709551616 * q :=
  ⟨-((x + 9223372036854775808) / 18446744073709551616), by unfold wrap64; omega⟩
theorem wrap64_shift (x q : Int) : wrap64 (x + 18446744073709551616 * q) = wrap64 x := by
  unfold wrap64; omega
theorem wrap64_congr {x y : Int} (q : Int) (h : x = y + 18446744073709551616 * q) : wrap64 x = wrap64 y := by
  rw [h, wrap64_shift]
theorem wrap64_mul_r (a x : Int) : wrap64 (a * wrap64 x) = wrap64 (a * x) := by
  obtain ⟨q, hq⟩ := wrap64_ex x
  rw [hq]
  exact wrap64_congr (a * q) (by rw [Int.mul_add, Int.mul_left_comm])
theorem wrap64_mul_l (a x : Int) : wrap64 (wrap64 x * a) = wrap64 (x * a) := by
  rw [Int.mul_comm, wrap64_mul_r, Int.mul_comm]
theorem wrap64_add_r (a x : Int) : wrap64 (a + wrap64 x) = wrap64 (a + x) := by
  unfold wrap64; omega
theorem wrap64_add_l (a x : Int) : wrap64 (wrap64 x + a) = wrap64 (x + a) := by
  unfold wrap64; omega
theorem wrap64_id (x : Int) (h0 : -9223372036854775808 ≤ x) (h1 : x ≤ 9223372036854775807) : wrap64 x = x := by
  unfold wrap64; omega
theorem wrap64_lo (x : Int) : -9223372036854775808 ≤ wrap64 x := by unfold wrap64; omega
theorem wrap64_hi (x : Int) : wrap64 x ≤ 9223372036854775807 := by unfold wrap64; omega
end Go.Proofs.YtajchaknfkfljaaDoor
