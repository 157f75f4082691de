/-
  The walk of the law MeetWhole.
-/
import Derived.Test.YtoahcjjndjdljaaMeLaws
import Derived.Test.YtoahcjjndjdljaaMeRef3
namespace Go.Proofs.Ytoahcjjndjdljaa.MeW
open Go.RowKit
open KM PtM OrM PtW OrW MeM RatM WideM WideV WideW SignM SignW RatW DigM
theorem small_ab {b : Int} {N D : Nat} (hb : -1073741824 ≤ b ∧ b ≤ 1073741824) (hN : N ≤ D) (hD' : D ≤ 9223372036854775807) : (b * (N : Int)).natAbs ≤ 1073741824 * 9223372036854775807 := by
  rw [Int.natAbs_mul, Int.natAbs_natCast]
  exact Nat.mul_le_mul (by omega) (by omega)
/-- a place along a line: a part of the way, ahead of which the line begins -/
theorem radd9_any (X b : Int) (N D : Nat) (hX : -536870912 ≤ X ∧ X ≤ 536870912) (hb : -1073741824 ≤ b ∧ b ≤ 1073741824) (hN : N ≤ D) (hD : 0 < D) (hD' : D ≤ 9223372036854775807) (w : World) :
    Calls Try.prog 15 #[frV (b * N) D, rv (ng X) X.natAbs 1] w (Ret (frV (b * N + X * D) D) w) := by
  have hs := small_ab hb hN hD'
  have hT := low_terms (z := b * N) hD
  have h1 : (lowN (b * N) D).natAbs < 2 ^ 120 := Nat.lt_of_le_of_lt lowN_le (by omega)
  have h2 : lowD (b * N) D < 2 ^ 120 := Nat.lt_of_le_of_lt lowD_le (by omega)
  have h3 : X.natAbs < 2 ^ 120 := by omega
  have h4 : (1 : Nat) < 2 ^ 120 := by omega
  have m1 := fr_may hT h1 h2
  have m2 := fr_may (z := X) (d := 1) ⟨by omega, Nat.gcd_one_right _⟩ h3 h4
  have hA := refadd_yes (ng (lowN (b * N) D)) (ng X) (lowN (b * N) D).natAbs X.natAbs (lowD (b * N) D) 1 (Lib.hid (pow_M h1 (by omega))) (Lib.hid (pow_M h3 (by omega))) (Lib.hid (pow_M h2 (by omega))) (Lib.hid (pow_M h4 (by omega))) m1 m2 w
  rw [sg_ng, sg_ng, lowV_fr (Nat.mul_pos hT.1 (by omega))] at hA
  have e : frV (lowN (b * ↑N) D * ((1 : Nat) : Int) + X * (lowD (b * ↑N) D : Int)) (lowD (b * ↑N) D * 1) = frV (b * N + X * D) D := by
    obtain ⟨e1, e2⟩ := low_eq (Nat.mul_pos hT.1 (by omega)) hD (low_sum (Z := b * N) (X := X) hD)
    unfold frV
    rw [e1, e2]
  rw [e] at hA
  exact hA
/-- what both lines tell is the same -/
theorem place_same {x z s p : Int} {N M' D : Nat} (h : x * (D : Int) + (z - x) * N = s * D + (p - s) * M') : frV ((z - x) * N + x * D) D = frV ((p - s) * M' + s * D) D := by
  rw [Int.add_comm ((z - x) * (N : Int)), h, Int.add_comm (s * (D : Int))]
theorem part_facts {b : Int} {N D : Nat} (f : Int) (hb : -1073741824 ≤ b ∧ b ≤ 1073741824) (hN : N ≤ D) (hD : 0 < D) (hf : -536870912 ≤ f ∧ f ≤ 536870912) (ho : partO (b * N) D = true) :
    IntKind.i64.wrap (partN f (b * N) D - f) = lowN (b * N) D ∧ -9223372036854775808 ≤ lowN (b * N) D ∧ lowN (b * N) D ≤ 9223372036854775807 := by
  have h1 : lowD (b * N) D = 1 := of_decide_eq_true ho
  have h2 := low_value (b * N) D
  rw [h1, Int.natCast_one, Int.mul_one] at h2
  have h3 : (lowN (b * N) D).natAbs * D ≤ 1073741824 * D := by
    have := congrArg Int.natAbs h2
    rw [Int.natAbs_mul, Int.natAbs_natCast, Int.natAbs_mul, Int.natAbs_natCast] at this
    rw [this]
    exact Nat.mul_le_mul (by omega) hN
  have h4 := Nat.le_of_mul_le_mul_right h3 hD
  unfold partN
  rw [if_pos ho, IntKind.wrap_i64]
  omega
theorem frD {Z : Int} {D : Nat} : eqB (lowD Z D) 1 = partO Z D := rfl
end Go.Proofs.Ytoahcjjndjdljaa.MeW
