/-
  Numbers with a sign: plain facts.
-/
import Derived.Test.YtmmnekcnaohnbaaDoorLow3
namespace SignM
open WideM
def sg (s : Bool) (n : Nat) : Int := if s = true then -(n : Int) else n
/-- is it below 0? -/
def ng (z : Int) : Bool := decide (z < 0)
def fitI (z : Int) : Bool := decide (z.natAbs < M)
def lowI (z : Int) : Int := if z.natAbs < M then z else 0
theorem sg_f (n : Nat) : sg false n = n := rfl
theorem sg_t (n : Nat) : sg true n = -(n : Int) := rfl
theorem sg_abs (s : Bool) (n : Nat) : (sg s n).natAbs = n := by cases s <;> simp [sg]
theorem sg_ng (z : Int) : sg (ng z) z.natAbs = z := by
  unfold sg ng
  by_cases h : z < 0
  · simp only [h, decide_true, if_true]; omega
  · simp only [h, decide_false, Bool.false_eq_true, if_false]; omega
theorem ng_sg (s : Bool) (n : Nat) : ng (sg s n) = (s && !eqB n 0) := by
  cases s
  · rw [sg_f]; unfold ng; rw [decide_eq_false (by omega)]; rfl
  · rw [sg_t]
    unfold ng eqB
    by_cases h : n = 0
    · subst h; rfl
    · rw [decide_eq_true (by omega), decide_eq_false h]; rfl
theorem low_fit {z : Int} (h : z.natAbs < M) : lowI z = z := if_pos h
theorem low_big {z : Int} (h : ¬ z.natAbs < M) : lowI z = 0 := if_neg h
theorem lowI_lt (z : Int) : (lowI z).natAbs < M := by unfold lowI; split; assumption; exact M_pos
theorem fit_yes {z : Int} (h : z.natAbs < M) : fitI z = true := decide_eq_true h
theorem fit_no {z : Int} (h : ¬ z.natAbs < M) : fitI z = false := decide_eq_false h
/-- numbers of both signs: the sum is what is between them -/
theorem sg_apart {s t : Bool} {a b : Nat} (h : s ≠ t) (hab : b ≤ a) : sg s (a - b) = sg s a + sg t b := by
  cases s <;> cases t <;> first | exact absurd rfl h | (simp only [sg_t, sg_f]; omega)
theorem sg_same (s : Bool) (a b : Nat) : sg s (a + b) = sg s a + sg s b := by
  cases s <;> simp only [sg_t, sg_f] <;> omega
theorem sg_mul (s t : Bool) (a b : Nat) : sg (s != t) (a * b) = sg s a * sg t b := by
  cases s <;> cases t <;> simp [sg, Int.mul_neg, Int.neg_mul]
theorem sg_not (s : Bool) (a : Nat) : sg (!s) a = - sg s a := by cases s <;> simp [sg]
end SignM
