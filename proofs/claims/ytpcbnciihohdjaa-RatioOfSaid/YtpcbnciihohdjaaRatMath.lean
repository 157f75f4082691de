/-
  Fractions: plain facts.
-/
namespace RatM
/-- in lowest terms -/
def lowN (z : Int) (d : Nat) : Int := z / (Nat.gcd z.natAbs d : Int)
def lowD (z : Int) (d : Nat) : Nat := d / Nat.gcd z.natAbs d
/-- may be, but for its size: in lowest terms -/
def Terms (z : Int) (d : Nat) : Prop := 0 < d ∧ Nat.gcd z.natAbs d = 1
theorem gcd_pos {z : Int} {d : Nat} (h : 0 < d) : 0 < Nat.gcd z.natAbs d := Nat.gcd_pos_of_pos_right _ h
theorem lowD_pos {z : Int} {d : Nat} (h : 0 < d) : 0 < lowD z d := Nat.div_pos (Nat.le_of_dvd h (Nat.gcd_dvd_right _ _)) (gcd_pos h)
theorem lowN_mul {z : Int} {d : Nat} : lowN z d * (Nat.gcd z.natAbs d : Int) = z := by
  unfold lowN
  refine Int.ediv_mul_cancel ?_
  rw [← Int.natAbs_dvd_natAbs, Int.natAbs_natCast]
  exact Nat.gcd_dvd_left _ _
theorem lowD_mul {z : Int} {d : Nat} : lowD z d * Nat.gcd z.natAbs d = d := Nat.div_mul_cancel (Nat.gcd_dvd_right _ _)
theorem lowN_abs {z : Int} {d : Nat} : (lowN z d).natAbs = z.natAbs / Nat.gcd z.natAbs d := by
  rcases Nat.eq_zero_or_pos (Nat.gcd z.natAbs d) with h | h
  · unfold lowN; rw [h]; simp
  · have := congrArg Int.natAbs (lowN_mul (z := z) (d := d))
    rw [Int.natAbs_mul, Int.natAbs_natCast] at this
    generalize Nat.gcd z.natAbs d = g at *
    rw [← this, Nat.mul_div_cancel _ h]
theorem low_terms {z : Int} {d : Nat} (h : 0 < d) : Terms (lowN z d) (lowD z d) := by
  refine ⟨lowD_pos h, ?_⟩
  rw [lowN_abs]
  unfold lowD
  rw [Nat.gcd_div (Nat.gcd_dvd_left _ _) (Nat.gcd_dvd_right _ _), Nat.div_self (gcd_pos h)]
/-- the value stays -/
theorem low_value (z : Int) (d : Nat) : lowN z d * d = z * lowD z d := by
  have h1 := lowN_mul (z := z) (d := d)
  have h2 := lowD_mul (z := z) (d := d)
  generalize Nat.gcd z.natAbs d = g at *
  generalize lowN z d = n at *
  generalize lowD z d = e at *
  subst h1 h2
  rw [Int.natCast_mul]
  ac_rfl
theorem low_same {z : Int} {d : Nat} (h : Nat.gcd z.natAbs d = 1) : lowN z d = z ∧ lowD z d = d := by
  unfold lowN lowD; rw [h]; simp
/-- fractions in lowest terms that are worth the same are the same -/
theorem terms_unique {z y : Int} {d e : Nat} (h1 : Terms z d) (h2 : Terms y e) (h : z * e = y * d) : z = y ∧ d = e := by
  obtain ⟨hd, g1⟩ := h1
  obtain ⟨he, g2⟩ := h2
  have ha := congrArg Int.natAbs h
  rw [Int.natAbs_mul, Int.natAbs_mul, Int.natAbs_natCast, Int.natAbs_natCast] at ha
  have d1 : d ∣ e := by
    have : d ∣ z.natAbs * e := by rw [ha]; exact Nat.dvd_mul_left _ _
    exact Nat.Coprime.dvd_of_dvd_mul_left (Nat.Coprime.symm g1) this
  have d2 : e ∣ d := by
    have : e ∣ y.natAbs * d := by rw [← ha]; exact Nat.dvd_mul_left _ _
    exact Nat.Coprime.dvd_of_dvd_mul_left (Nat.Coprime.symm g2) this
  have hde := Nat.dvd_antisymm d1 d2
  subst hde
  exact ⟨Int.eq_of_mul_eq_mul_right (by omega) h, rfl⟩
/-- how fractions compare -/
def crossD (z : Int) (d : Nat) (y : Int) (e : Nat) : Int := z * e - y * d
theorem cross_trans {z y x : Int} {d e f : Nat} (hd : 0 < d) (he : 0 < e) (hf : 0 < f) (h1 : crossD z d y e ≤ 0) (h2 : crossD y e x f ≤ 0) : crossD z d x f ≤ 0 := by
  unfold crossD at *
  have a1 : z * e * f ≤ y * d * f := Int.mul_le_mul_of_nonneg_right (by omega) (by omega)
  have a2 : y * f * d ≤ x * e * d := Int.mul_le_mul_of_nonneg_right (by omega) (by omega)
  have a3 : z * f * e ≤ x * d * e := by
    rw [show z * f * e = z * e * f by ac_rfl, show x * d * e = x * e * d by ac_rfl]
    exact Int.le_trans a1 (by rw [show y * d * f = y * f * d by ac_rfl]; exact a2)
  have := Int.le_of_mul_le_mul_right a3 (by omega)
  omega
theorem floor_low {z : Int} {d : Nat} (h : 0 < d) : z / (d : Int) * d ≤ z := Int.ediv_mul_le z (by omega)
theorem floor_high {z : Int} {d : Nat} (h : 0 < d) : z < (z / (d : Int) + 1) * d := Int.lt_ediv_add_one_mul_self z (by omega)
theorem floor_neg {a d : Nat} (h : 0 < d) : (-(a : Int)) / (d : Int) = -((if a % d = 0 then a / d else a / d + 1 : Nat) : Int) := by
  have hm := Nat.mod_lt a h
  have hd := Nat.div_add_mod a d
  rw [Nat.mul_comm] at hd
  split
  · rename_i h0
    rw [h0, Nat.add_zero] at hd
    generalize a / d = q at *
    subst hd
    rw [Int.natCast_mul, ← Int.neg_mul, Int.mul_ediv_cancel _ (by omega)]
  · rename_i h0
    generalize a / d = q at *
    generalize a % d = m at *
    have e : -(a : Int) = ((d : Int) - m) + (-((q + 1 : Nat) : Int)) * d := by
      rw [← hd, Int.natCast_add, Int.natCast_mul, Int.natCast_add, Int.neg_mul, Int.add_mul]
      simp only [Int.natCast_one, Int.one_mul]
      generalize (q : Int) * d = x
      omega
    rw [e, Int.add_mul_ediv_right _ _ (by omega), Int.ediv_eq_zero_of_lt (by omega) (by omega), Int.zero_add]
/-- a part of a number, cut -/
theorem part_le {n num den : Nat} (h : num ≤ den) : n * num / den ≤ n := by
  rcases Nat.eq_zero_or_pos den with h0 | h0
  · subst h0; rw [Nat.div_zero]; omega
  · rw [Nat.div_le_iff_le_mul_add_pred h0]
    have := Nat.mul_le_mul_left n h
    rw [Nat.mul_comm den n]
    omega
theorem part_mono {n num more den : Nat} (h : num ≤ more) : n * num / den ≤ n * more / den := Nat.div_le_div_right (Nat.mul_le_mul_left n h)
end RatM
