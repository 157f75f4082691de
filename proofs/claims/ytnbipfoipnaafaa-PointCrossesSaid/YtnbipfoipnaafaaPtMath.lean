/-
  Points of the grid: plain arithmetic.
-/
import Derived.Test.YtnbipfoipnaafaaRows
import Derived.WalkKit
namespace PtM
open Go
/-- twice the area of three points -/
def crs (x y z u s t : Int) : Int := (z - x) * (t - y) - (u - y) * (s - x)
/-- how far the third goes along the line of both others -/
def dts (x y z u s t : Int) : Int := (z - x) * (s - x) + (u - y) * (t - y)
theorem mul_bd {p s : Int} (h1 : -1073741824 ≤ p) (h1' : p ≤ 1073741824) (h2 : -1073741824 ≤ s) (h2' : s ≤ 1073741824) : -1152921504606846976 ≤ p * s ∧ p * s ≤ 1152921504606846976 := by
  have h : (p * s).natAbs ≤ 1073741824 * 1073741824 := by rw [Int.natAbs_mul]; exact Nat.mul_le_mul (by omega) (by omega)
  generalize p * s = r at *
  omega
theorem mul_bd' {p s : Int} (h1 : -536870912 ≤ p) (h1' : p ≤ 536870912) (h2 : -536870912 ≤ s) (h2' : s ≤ 536870912) : -288230376151711744 ≤ p * s ∧ p * s ≤ 288230376151711744 := by
  have h : (p * s).natAbs ≤ 536870912 * 536870912 := by rw [Int.natAbs_mul]; exact Nat.mul_le_mul (by omega) (by omega)
  generalize p * s = r at *
  omega
theorem crs_sum (x y z u s t : Int) : crs x y z u s t = x * u - z * y + z * t - s * u + s * y - x * t := by
  unfold crs; grind
theorem crs_swap (x y z u s t : Int) : crs z u x y s t = -crs x y z u s t := by
  unfold crs; grind
theorem crs_round (x y z u s t : Int) : crs z u s t x y = crs x y z u s t := by
  unfold crs; grind
theorem crs_turn (x y z u s t : Int) : crs (-y) x (-u) z (-t) s = crs x y z u s t := by
  unfold crs; grind
theorem dts_turn (x y z u s t : Int) : dts (-y) x (-u) z (-t) s = dts x y z u s t := by
  unfold dts; grind
theorem dts_zero (x y z u : Int) : dts x y z u z u = 0 ↔ x = z ∧ y = u := by
  unfold dts
  constructor
  · intro h
    have h1 : 0 ≤ (z - x) * (z - x) := by
      rcases Int.le_total 0 (z - x) with h | h
      · exact Int.mul_nonneg h h
      · exact Int.mul_nonneg_of_nonpos_of_nonpos h h
    have h2 : 0 ≤ (u - y) * (u - y) := by
      rcases Int.le_total 0 (u - y) with h | h
      · exact Int.mul_nonneg h h
      · exact Int.mul_nonneg_of_nonpos_of_nonpos h h
    have h3 : (z - x) * (z - x) = 0 := by omega
    have h4 : (u - y) * (u - y) = 0 := by omega
    have h5 := Int.mul_eq_zero.1 h3
    have h6 := Int.mul_eq_zero.1 h4
    omega
  · rintro ⟨rfl, rfl⟩
    simp
/-- turned by so many quarters -/
def tx (k : Nat) (x y : Int) : Int := match k with | 0 => x | 1 => -y | 2 => -x | _ => y
def ty (k : Nat) (x y : Int) : Int := match k with | 0 => y | 1 => x | 2 => -y | _ => -x
/-- quarters modulo 4 -/
def qk (q : Int) : Nat := (q % 4).toNat
theorem qk_lt (q : Int) : qk q < 4 := by unfold qk; omega
theorem qk_go (q : Int) : ((Int.tmod q 4) + 4).tmod 4 = (qk q : Int) := by
  unfold qk
  rw [Int.toNat_of_nonneg (by omega)]
  have h1 : -4 < Int.tmod q 4 := by have := Int.tmod_lt_of_pos (-q) (show (0 : Int) < 4 by omega); rw [Int.neg_tmod] at this; omega
  have h2 : Int.tmod q 4 < 4 := Int.tmod_lt_of_pos q (by omega)
  rw [Int.tmod_eq_emod_of_nonneg (by omega)]
  have h3 := Int.tmod_eq_emod (a := q) (b := 4)
  rw [h3]
  split <;> omega
theorem tx_next {k : Nat} (h : k < 3) (x y : Int) : tx (k + 1) x y = -ty k x y := by
  match k, h with
  | 0, _ => rfl
  | 1, _ => rfl
  | 2, _ => exact (Int.neg_neg y).symm
theorem ty_next {k : Nat} (h : k < 3) (x y : Int) : ty (k + 1) x y = tx k x y := by
  match k, h with
  | 0, _ => rfl
  | 1, _ => rfl
  | 2, _ => rfl
theorem ty_bd {k : Nat} {x y : Int} (h1 : -536870912 ≤ x) (h1' : x ≤ 536870912) (h2 : -536870912 ≤ y) (h2' : y ≤ 536870912) : (-536870912 ≤ tx k x y ∧ tx k x y ≤ 536870912) ∧ (-536870912 ≤ ty k x y ∧ ty k x y ≤ 536870912) := by
  unfold tx ty
  split <;> omega
theorem min_go (x z : Int) : (if z < x then z else x) = min x z := by
  split <;> omega
theorem max_go (x z : Int) : (if x < z then z else x) = max x z := by
  split <;> omega
theorem crs_turned (k : Nat) (x y z u s t : Int) : crs (tx k x y) (ty k x y) (tx k z u) (ty k z u) (tx k s t) (ty k s t) = crs x y z u s t := by
  match k with
  | 0 => rfl
  | 1 => exact crs_turn x y z u s t
  | 2 => show crs (-x) (-y) (-z) (-u) (-s) (-t) = _; rw [crs_turn (-y) x (-u) z (-t) s, crs_turn]
  | _ + 3 => show crs y (-x) u (-z) t (-s) = _; rw [← crs_turn y (-x) u (-z) t (-s), Int.neg_neg, Int.neg_neg, Int.neg_neg]
theorem dts_turned (k : Nat) (x y z u s t : Int) : dts (tx k x y) (ty k x y) (tx k z u) (ty k z u) (tx k s t) (ty k s t) = dts x y z u s t := by
  match k with
  | 0 => rfl
  | 1 => exact dts_turn x y z u s t
  | 2 => show dts (-x) (-y) (-z) (-u) (-s) (-t) = _; rw [dts_turn (-y) x (-u) z (-t) s, dts_turn]
  | _ + 3 => show dts y (-x) u (-z) t (-s) = _; rw [← dts_turn y (-x) u (-z) t (-s), Int.neg_neg, Int.neg_neg, Int.neg_neg]
theorem crs_bd {x y z u s t : Int} (h1 : -536870912 ≤ x) (h1' : x ≤ 536870912) (h2 : -536870912 ≤ y) (h2' : y ≤ 536870912) (h3 : -536870912 ≤ z) (h3' : z ≤ 536870912) (h4 : -536870912 ≤ u) (h4' : u ≤ 536870912)
    (h5 : -536870912 ≤ s) (h5' : s ≤ 536870912) (h6 : -536870912 ≤ t) (h6' : t ≤ 536870912) : -2305843009213693952 ≤ crs x y z u s t ∧ crs x y z u s t ≤ 2305843009213693952 := by
  have c1 := @mul_bd (z - x) (t - y) (by omega) (by omega) (by omega) (by omega)
  have c2 := @mul_bd (u - y) (s - x) (by omega) (by omega) (by omega) (by omega)
  unfold crs
  omega
end PtM
