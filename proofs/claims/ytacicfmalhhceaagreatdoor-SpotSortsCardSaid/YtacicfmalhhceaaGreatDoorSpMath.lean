/-
  Spots, plain: lowest terms of three, order, sorted rows.
-/
import Derived.Test.YtacicfmalhhceaaGreatDoorLow5
namespace SpM
open SignM WideM Go.Proofs.YtacicfmalhhceaaGreatDoor.SignW
/-- what divides three most -/
def gS (n m d : Nat) : Nat := Nat.gcd n (Nat.gcd m d)
theorem gS_ref (n m d : Nat) : Nat.gcd (Nat.gcd n m) d = gS n m d := Nat.gcd_assoc _ _ _
theorem gS_n (n m d : Nat) : gS n m d ∣ n := Nat.gcd_dvd_left _ _
theorem gS_m (n m d : Nat) : gS n m d ∣ m := Nat.dvd_trans (Nat.gcd_dvd_right _ _) (Nat.gcd_dvd_left _ _)
theorem gS_d (n m d : Nat) : gS n m d ∣ d := Nat.dvd_trans (Nat.gcd_dvd_right _ _) (Nat.gcd_dvd_right _ _)
theorem gS_pos {n m d : Nat} (h : 0 < d) : 0 < gS n m d := Nat.pos_of_dvd_of_pos (gS_d n m d) h
theorem gS_lt {n m d k : Nat} (h : 0 < d) (hd : d < k) : gS n m d < k := Nat.lt_of_le_of_lt (Nat.le_of_dvd h (gS_d n m d)) hd
theorem dvd_gS {k n m d : Nat} (h1 : k ∣ n) (h2 : k ∣ m) (h3 : k ∣ d) : k ∣ gS n m d := Nat.dvd_gcd h1 (Nat.dvd_gcd h2 h3)
theorem gS_mul (k n m d : Nat) : gS (k * n) (k * m) (k * d) = k * gS n m d := by unfold gS; rw [Nat.gcd_mul_left, Nat.gcd_mul_left]
theorem gS_low {n m d : Nat} (h : 0 < d) : gS (n / gS n m d) (m / gS n m d) (d / gS n m d) = 1 := by
  have hp := gS_pos (n := n) (m := m) h
  have h1 := gS_mul (gS n m d) (n / gS n m d) (m / gS n m d) (d / gS n m d)
  rw [Nat.mul_div_cancel' (gS_n n m d), Nat.mul_div_cancel' (gS_m n m d), Nat.mul_div_cancel' (gS_d n m d)] at h1
  exact Nat.eq_of_mul_eq_mul_left hp (by rw [← h1, Nat.mul_one])
theorem div_self_iff {d g : Nat} (hd : 0 < d) (hg : g ∣ d) : d / g = d ↔ g = 1 := by
  constructor
  · intro h
    have h1 := Nat.div_mul_cancel hg
    rw [h] at h1
    exact Nat.eq_of_mul_eq_mul_left hd (by rw [h1, Nat.mul_one])
  · rintro rfl; exact Nat.div_one d
theorem low_iff {n m d : Nat} (h : 0 < d) : (n / gS n m d = n ∧ m / gS n m d = m ∧ d / gS n m d = d) ↔ gS n m d = 1 :=
  ⟨fun h1 => (div_self_iff h (gS_d n m d)).1 h1.2.2, fun h1 => by rw [h1]; exact ⟨Nat.div_one n, Nat.div_one m, Nat.div_one d⟩⟩
/-- lowest terms are told by what they stand for -/
theorem low_unique_nat {n m d n' m' d' : Nat} (h : gS n m d = 1) (h' : gS n' m' d' = 1) (e1 : n * d' = n' * d) (e2 : m * d' = m' * d) : d ∣ d' := by
  have h1 : gS (d' * n) (d' * m) (d' * d) = d' := by rw [gS_mul, h, Nat.mul_one]
  rw [← h1]
  exact dvd_gS (by rw [Nat.mul_comm, e1]; exact Nat.dvd_mul_left _ _) (by rw [Nat.mul_comm, e2]; exact Nat.dvd_mul_left _ _) (Nat.dvd_mul_left _ _)
theorem low_unique {x y x' y' : Int} {d d' : Nat} (hd : 0 < d) (h : gS x.natAbs y.natAbs d = 1) (h' : gS x'.natAbs y'.natAbs d' = 1) (e1 : x * d' = x' * d) (e2 : y * d' = y' * d) : x = x' ∧ y = y' ∧ d = d' := by
  have a1 : x.natAbs * d' = x'.natAbs * d := by have := congrArg Int.natAbs e1; simpa [Int.natAbs_mul] using this
  have a2 : y.natAbs * d' = y'.natAbs * d := by have := congrArg Int.natAbs e2; simpa [Int.natAbs_mul] using this
  have hdd : d = d' := Nat.dvd_antisymm (low_unique_nat h h' a1 a2) (low_unique_nat h' h a1.symm a2.symm)
  subst hdd
  have hd' : (d : Int) ≠ 0 := by omega
  exact ⟨Int.eq_of_mul_eq_mul_right hd' e1, Int.eq_of_mul_eq_mul_right hd' e2, rfl⟩
/-- a spot: parts and what they are divided by -/
structure Sp where
  x : Int
  y : Int
  d : Nat
deriving DecidableEq, Inhabited
/-- less, by what they stand for -/
def ltZ (x : Int) (d : Nat) (x' : Int) (d' : Nat) : Bool := decide (x * d' < x' * d)
def eqZ (x : Int) (d : Nat) (x' : Int) (d' : Nat) : Bool := decide (x * d' = x' * d)
/-- how spots compare -/
def ordS (a b : Sp) : Int := if cmpZ (a.x * b.d - b.x * a.d) = 0 then cmpZ (a.y * b.d - b.y * a.d) else cmpZ (a.x * b.d - b.x * a.d)
theorem cmpZ_zero {z : Int} : cmpZ z = 0 ↔ z = 0 := by unfold cmpZ; constructor <;> intro h <;> (repeat' split at *) <;> omega
theorem cmpZ_neg {z : Int} : cmpZ z < 0 ↔ z < 0 := by unfold cmpZ; constructor <;> intro h <;> (repeat' split at *) <;> omega
theorem cmpZ_opp (z : Int) : cmpZ (-z) = - cmpZ z := by unfold cmpZ; repeat' split <;> omega
theorem cmpZ_one {z : Int} : cmpZ z = -1 ∨ cmpZ z = 0 ∨ cmpZ z = 1 := by unfold cmpZ; repeat' split <;> omega
def ltS (a b : Sp) : Prop := a.x * b.d < b.x * a.d ∨ a.x * b.d = b.x * a.d ∧ a.y * b.d < b.y * a.d
def sameS (a b : Sp) : Prop := a.x * b.d = b.x * a.d ∧ a.y * b.d = b.y * a.d
instance (a b : Sp) : Decidable (ltS a b) := by unfold ltS; infer_instance
theorem ordS_neg {a b : Sp} : ordS a b < 0 ↔ ltS a b := by
  unfold ordS ltS
  by_cases h : cmpZ (a.x * b.d - b.x * a.d) = 0
  · rw [if_pos h]
    have h1 := cmpZ_zero.1 h
    have h2 := cmpZ_neg (z := a.y * b.d - b.y * a.d)
    omega
  · rw [if_neg h]
    have h1 := cmpZ_zero (z := a.x * b.d - b.x * a.d)
    have h2 := cmpZ_neg (z := a.x * b.d - b.x * a.d)
    omega
theorem ordS_zero {a b : Sp} : ordS a b = 0 ↔ sameS a b := by
  unfold ordS sameS
  have h1 := cmpZ_zero (z := a.x * b.d - b.x * a.d)
  have h2 := cmpZ_zero (z := a.y * b.d - b.y * a.d)
  by_cases h : cmpZ (a.x * b.d - b.x * a.d) = 0
  · rw [if_pos h]; omega
  · rw [if_neg h]; omega
theorem ordS_opp (a b : Sp) : ordS b a = - ordS a b := by
  unfold ordS
  have h1 := cmpZ_opp (a.x * b.d - b.x * a.d)
  have h2 := cmpZ_opp (a.y * b.d - b.y * a.d)
  rw [show b.x * a.d - a.x * b.d = -(a.x * b.d - b.x * a.d) by omega, show b.y * a.d - a.y * b.d = -(a.y * b.d - b.y * a.d) by omega, h1, h2]
  split <;> split <;> omega
theorem ordS_one (a b : Sp) : ordS a b = -1 ∨ ordS a b = 0 ∨ ordS a b = 1 := by
  unfold ordS; split <;> exact cmpZ_one
theorem mul_lt_d {a b : Int} {d : Nat} (hd : 0 < d) : a * d < b * d ↔ a < b := by
  have h : (0 : Int) < d := by omega
  constructor
  · intro h1
    rcases Int.lt_or_le a b with h2 | h2
    · exact h2
    · exact absurd h1 (Int.not_lt.2 (Int.mul_le_mul_of_nonneg_right h2 (Int.le_of_lt h)))
  · exact fun h1 => Int.mul_lt_mul_of_pos_right h1 h
theorem mul_eq_d {a b : Int} {d : Nat} (hd : 0 < d) : a * d = b * d ↔ a = b :=
  ⟨fun h => Int.eq_of_mul_eq_mul_right (by omega) h, fun h => by rw [h]⟩
theorem sw (a : Int) (b c : Nat) : a * b * c = a * c * b := by rw [Int.mul_assoc, Int.mul_comm (b : Int), ← Int.mul_assoc]
theorem ltS_irrefl (a : Sp) : ¬ ltS a a := by unfold ltS; omega
theorem ltS_trans {a b c : Sp} (ha : 0 < a.d) (hb : 0 < b.d) (hc : 0 < c.d) (h1 : ltS a b) (h2 : ltS b c) : ltS a c := by
  unfold ltS at *
  rw [← mul_lt_d hb (a := a.x * c.d), ← mul_lt_d hb (a := a.y * c.d), ← mul_eq_d hb (a := a.x * c.d), sw a.x, sw c.x, sw a.y, sw c.y]
  have e1 : a.x * b.d < b.x * a.d ↔ a.x * b.d * c.d < b.x * a.d * c.d := (mul_lt_d hc).symm
  have e2 : a.x * b.d = b.x * a.d ↔ a.x * b.d * c.d = b.x * a.d * c.d := (mul_eq_d hc).symm
  have e3 : a.y * b.d < b.y * a.d ↔ a.y * b.d * c.d < b.y * a.d * c.d := (mul_lt_d hc).symm
  have f1 : b.x * c.d < c.x * b.d ↔ b.x * a.d * c.d < c.x * b.d * a.d := by rw [sw b.x]; exact (mul_lt_d ha).symm
  have f2 : b.x * c.d = c.x * b.d ↔ b.x * a.d * c.d = c.x * b.d * a.d := by rw [sw b.x]; exact (mul_eq_d ha).symm
  have f3 : b.y * c.d < c.y * b.d ↔ b.y * a.d * c.d < c.y * b.d * a.d := by rw [sw b.y]; exact (mul_lt_d ha).symm
  rw [e1, e2, e3] at h1
  rw [f1, f2, f3] at h2
  omega
theorem ltS_total (a b : Sp) : ltS a b ∨ sameS a b ∨ ltS b a := by unfold ltS sameS; omega
/-- a spot that is in lowest terms -/
def Low3 (a : Sp) : Prop := 0 < a.d ∧ gS a.x.natAbs a.y.natAbs a.d = 1
theorem same_eq {a b : Sp} (ha : Low3 a) (hb : Low3 b) (h : sameS a b) : a = b := by
  obtain ⟨h1, h2, h3⟩ := low_unique ha.1 ha.2 hb.2 h.1 h.2
  cases a; cases b; simp_all
theorem same_refl (a : Sp) : sameS a a := ⟨rfl, rfl⟩
theorem ord_eq_iff {a b : Sp} (ha : Low3 a) (hb : Low3 b) : ordS a b = 0 ↔ a = b :=
  ⟨fun h => same_eq ha hb (ordS_zero.1 h), fun h => by rw [h]; exact ordS_zero.2 (same_refl b)⟩
end SpM
