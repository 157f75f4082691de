/-
  Texts of the layers below in one: OrMath OrFn OrEq OrRef.
-/
import Derived.Test.YtacicfmalhhceaaGreatDoorRows
import Derived.Test.YtacicfmalhhceaaGreatDoorLow6
/- On which side points lie, and whether lines touch: plain arithmetic. -/
namespace OrM
open PtM
/-- a product by a positive number has the other's sign -/
theorem pos_mul {D x : Int} (h : 0 < D) : (0 < D * x ↔ 0 < x) ∧ (D * x < 0 ↔ x < 0) ∧ (D * x = 0 ↔ x = 0) := by
  have h1 : 0 < x → 0 < D * x := fun hx => Int.mul_pos h hx
  have h2 : x < 0 → D * x < 0 := fun hx => Int.mul_neg_of_pos_of_neg h hx
  have h3 : x = 0 → D * x = 0 := fun hx => by rw [hx, Int.mul_zero]
  generalize D * x = y at *
  omega
theorem sq_nonneg (x : Int) : 0 ≤ x * x := by
  rcases Int.le_total 0 x with h | h
  · exact Int.mul_nonneg h h
  · exact Int.mul_nonneg_of_nonpos_of_nonpos h h
theorem sq_pos {x : Int} (h : x ≠ 0) : 0 < x * x := by
  have h1 := sq_nonneg x
  have h2 : x * x ≠ 0 := fun h0 => h (by have := Int.mul_eq_zero.1 h0; omega)
  omega
/-- the sign of a product from those of both -/
theorem mul_sg (x y : Int) : (0 < x * y ↔ (0 < x ∧ 0 < y) ∨ (x < 0 ∧ y < 0)) ∧ (x * y < 0 ↔ (0 < x ∧ y < 0) ∨ (x < 0 ∧ 0 < y)) ∧ (x * y = 0 ↔ x = 0 ∨ y = 0) := by
  have h1 : 0 < x → 0 < y → 0 < x * y := fun h k => Int.mul_pos h k
  have h2 : 0 < x → y < 0 → x * y < 0 := fun h k => Int.mul_neg_of_pos_of_neg h k
  have h3 : x < 0 → 0 < y → x * y < 0 := fun h k => Int.mul_neg_of_neg_of_pos h k
  have h4 : x < 0 → y < 0 → 0 < x * y := fun h k => Int.mul_pos_of_neg_of_neg h k
  have h5 : x * y = 0 ↔ x = 0 ∨ y = 0 := Int.mul_eq_zero
  generalize x * y = r at *
  omega
/-- how long a line is, squared -/
def len (x y z u : Int) : Int := dts x y z u z u
theorem len_pos {x y z u : Int} (h : ¬(x = z ∧ y = u)) : 0 < len x y z u := by
  have h0 : len x y z u ≠ 0 := fun e => h ((dts_zero x y z u).1 e)
  have h1 : 0 ≤ len x y z u := by
    have := sq_nonneg (z - x); have := sq_nonneg (u - y)
    unfold len dts; omega
  omega
/-- a point on the straight line: each part goes along as far -/
theorem along {x y z u s t : Int} (h : crs x y z u s t = 0) : len x y z u * (s - x) = dts x y z u s t * (z - x) ∧ len x y z u * (t - y) = dts x y z u s t * (u - y) := by
  unfold crs at h; unfold len dts
  constructor <;> grind
theorem near {x y z u s t : Int} (h : crs x y z u s t = 0) : len x y z u * dts s t x y z u = dts x y z u s t * (dts x y z u s t - len x y z u) := by
  unfold crs at h; unfold len dts
  grind
/-- between the ends: told by either way of reckoning -/
theorem on_way {x y z u s t : Int} (hd : ¬(x = z ∧ y = u)) (h : crs x y z u s t = 0) : dts s t x y z u ≤ 0 ↔ 0 ≤ dts x y z u s t ∧ dts x y z u s t ≤ len x y z u := by
  have hD := len_pos hd
  have h1 := near h
  have h2 := @pos_mul _ (dts s t x y z u) hD
  have h3 := mul_sg (dts x y z u s t) (dts x y z u s t - len x y z u)
  rw [h1] at h2
  generalize dts x y z u s t * (dts x y z u s t - len x y z u) = r at *
  omega
/-- a point on the straight line of one, whose ends lie on both sides of the other one: it is on it -/
theorem on_of_cross {x y z u s t p q : Int} (hd : ¬(x = z ∧ y = u)) (h : crs x y z u s t = 0) (h' : crs x y z u p q ≠ 0) (hc : crs s t p q x y * crs s t p q z u ≤ 0) : dts s t x y z u ≤ 0 := by
  rw [on_way hd h]
  have hD := len_pos hd
  have e : len x y z u * len x y z u * (crs s t p q x y * crs s t p q z u) = (crs x y z u p q * crs x y z u p q) * (dts x y z u s t * (dts x y z u s t - len x y z u)) := by
    have h1 : len x y z u * crs s t p q x y = dts x y z u s t * crs x y z u p q := by
      obtain ⟨a, b⟩ := along h
      generalize len x y z u = D at *
      generalize dts x y z u s t = N at *
      unfold crs at *
      grind
    have h2 : len x y z u * crs s t p q z u = (dts x y z u s t - len x y z u) * crs x y z u p q := by
      obtain ⟨a, b⟩ := along h
      generalize len x y z u = D at *
      generalize dts x y z u s t = N at *
      unfold crs at *
      grind
    generalize crs s t p q x y = c at *
    generalize crs s t p q z u = d at *
    generalize crs x y z u p q = b at *
    generalize len x y z u = D at *
    generalize dts x y z u s t = N at *
    grind
  have h1 := @pos_mul _ (crs s t p q x y * crs s t p q z u) (Int.mul_pos hD hD)
  have h2 := @pos_mul _ (dts x y z u s t * (dts x y z u s t - len x y z u)) (sq_pos h')
  have h3 := mul_sg (dts x y z u s t) (dts x y z u s t - len x y z u)
  rw [e] at h1
  generalize crs x y z u p q * crs x y z u p q * (dts x y z u s t * (dts x y z u s t - len x y z u)) = r1 at *
  generalize dts x y z u s t * (dts x y z u s t - len x y z u) = r2 at *
  omega
/-- .. and the other way about -/
theorem cross_of_on {x y z u s t p q : Int} (hd : ¬(x = z ∧ y = u)) (h : crs x y z u s t = 0) (ho : dts s t x y z u ≤ 0) : crs s t p q x y * crs s t p q z u ≤ 0 := by
  rw [on_way hd h] at ho
  have hD := len_pos hd
  have h1 : len x y z u * crs s t p q x y = dts x y z u s t * crs x y z u p q := by
    obtain ⟨a, b⟩ := along h
    generalize len x y z u = D at *
    generalize dts x y z u s t = N at *
    unfold crs at *
    grind
  have h2 : len x y z u * crs s t p q z u = (dts x y z u s t - len x y z u) * crs x y z u p q := by
    obtain ⟨a, b⟩ := along h
    generalize len x y z u = D at *
    generalize dts x y z u s t = N at *
    unfold crs at *
    grind
  generalize crs s t p q x y = c at *
  generalize crs s t p q z u = d at *
  generalize crs x y z u p q = b at *
  generalize len x y z u = D at *
  generalize dts x y z u s t = N at *
  have k1 := @pos_mul D c hD
  have k2 := @pos_mul D d hD
  have k3 := mul_sg N b
  have k4 := mul_sg (N - D) b
  have k5 := mul_sg c d
  rw [h1] at k1
  rw [h2] at k2
  generalize N * b = r1 at *
  generalize (N - D) * b = r2 at *
  generalize c * d = r3 at *
  omega
theorem nn_mul {D x : Int} (h : 0 < D) (h' : 0 ≤ D * x) : 0 ≤ x := by
  have := (@pos_mul D x h).2.1
  omega
theorem box_one {D N x z s : Int} (hD : 0 < D) (h0 : 0 ≤ N) (h1 : N ≤ D) (e : D * (s - x) = N * (z - x)) : min x z ≤ s ∧ s ≤ max x z := by
  have e' : D * (z - s) = (D - N) * (z - x) := by grind
  have f : D * (x - s) = N * (x - z) := by grind
  have f' : D * (s - z) = (D - N) * (x - z) := by grind
  rcases Int.le_total x z with h | h
  · have k1 : 0 ≤ s - x := nn_mul hD (by rw [e]; exact Int.mul_nonneg h0 (by omega))
    have k2 : 0 ≤ z - s := nn_mul hD (by rw [e']; exact Int.mul_nonneg (by omega) (by omega))
    clear e e' f f'
    omega
  · have k1 : 0 ≤ x - s := nn_mul hD (by rw [f]; exact Int.mul_nonneg h0 (by omega))
    have k2 : 0 ≤ s - z := nn_mul hD (by rw [f']; exact Int.mul_nonneg (by omega) (by omega))
    clear e e' f f'
    omega
/-- a point on a line is within its box -/
theorem in_box {x y z u s t : Int} (hd : ¬(x = z ∧ y = u)) (h : crs x y z u s t = 0) (ho : dts s t x y z u ≤ 0) : (min x z ≤ s ∧ s ≤ max x z) ∧ (min y u ≤ t ∧ t ≤ max y u) := by
  rw [on_way hd h] at ho
  have hD := len_pos hd
  obtain ⟨a, b⟩ := along h
  exact ⟨box_one hD ho.1 ho.2 a, box_one hD ho.1 ho.2 b⟩
/-- ahead of the line's begin -/
theorem out_low {D N x z s : Int} (hD : 0 < D) (h0 : N < 0) (e : D * (s - x) = N * (z - x)) : (x < z → s < x) ∧ (z < x → x < s) := by
  constructor
  · intro h
    have := (@pos_mul D (s - x) hD).2.1.1 (by rw [e]; exact Int.mul_neg_of_neg_of_pos h0 (by omega))
    omega
  · intro h
    have := (@pos_mul D (s - x) hD).1.1 (by rw [e]; exact Int.mul_pos_of_neg_of_neg h0 (by omega))
    omega
/-- behind the line's end -/
theorem out_high {D N x z s : Int} (hD : 0 < D) (h0 : D < N) (e : D * (s - x) = N * (z - x)) : (x < z → z < s) ∧ (z < x → s < z) := by
  have e' : D * (s - z) = (N - D) * (z - x) := by grind
  constructor
  · intro h
    have := (@pos_mul D (s - z) hD).1.1 (by rw [e']; exact Int.mul_pos (by omega) (by omega))
    omega
  · intro h
    have := (@pos_mul D (s - z) hD).2.1.1 (by rw [e']; exact Int.mul_neg_of_pos_of_neg (by omega) (by omega))
    omega
/-- are boxes apart? -/
def apt (x y z u s t p q : Int) : Prop := max x z < min s p ∨ max s p < min x z ∨ max y u < min t q ∨ max t q < min y u
/-- all ends on one straight line, and boxes that are not apart: an end of one is on the other one -/
theorem on_flat {x y z u s t p q : Int} (hd : ¬(x = z ∧ y = u)) (h1 : crs x y z u s t = 0) (h2 : crs x y z u p q = 0) (hb : ¬apt x y z u s t p q) : dts s t x y z u ≤ 0 ∨ dts p q x y z u ≤ 0 ∨ dts x y s t p q ≤ 0 := by
  have hD := len_pos hd
  have w1 := on_way hd h1
  have w2 := on_way hd h2
  have e : len x y z u * dts x y s t p q = dts x y z u s t * dts x y z u p q := by
    unfold crs at h1 h2; unfold len dts
    grind
  have k := @pos_mul _ (dts x y s t p q) hD
  rw [e] at k
  have m := mul_sg (dts x y z u s t) (dts x y z u p q)
  obtain ⟨a1, b1⟩ := along h1
  obtain ⟨a2, b2⟩ := along h2
  generalize dts s t x y z u = o1 at *
  generalize dts p q x y z u = o2 at *
  generalize dts x y s t p q = o3 at *
  generalize len x y z u = D at *
  generalize dts x y z u s t = N at *
  generalize dts x y z u p q = K at *
  clear e h1 h2
  generalize N * K = r at *
  unfold apt at hb
  have hd' : x < z ∨ z < x ∨ y < u ∨ u < y := by omega
  by_cases g : N < 0 ∧ K < 0
  · exfalso
    have k1 := out_low hD g.1 a1
    have k2 := out_low hD g.2 a2
    have k3 := out_low hD g.1 b1
    have k4 := out_low hD g.2 b2
    clear a1 a2 b1 b2 w1 w2 k m g hd hD
    rcases hd' with h | h | h | h
    · have := k1.1 h; have := k2.1 h; clear k1 k2 k3 k4; exact hb (by omega)
    · have := k1.2 h; have := k2.2 h; clear k1 k2 k3 k4; exact hb (by omega)
    · have := k3.1 h; have := k4.1 h; clear k1 k2 k3 k4; exact hb (by omega)
    · have := k3.2 h; have := k4.2 h; clear k1 k2 k3 k4; exact hb (by omega)
  · by_cases g' : D < N ∧ D < K
    · exfalso
      have k1 := out_high hD g'.1 a1
      have k2 := out_high hD g'.2 a2
      have k3 := out_high hD g'.1 b1
      have k4 := out_high hD g'.2 b2
      clear a1 a2 b1 b2 w1 w2 k m g g' hd hD
      rcases hd' with h | h | h | h
      · have := k1.1 h; have := k2.1 h; clear k1 k2 k3 k4; exact hb (by omega)
      · have := k1.2 h; have := k2.2 h; clear k1 k2 k3 k4; exact hb (by omega)
      · have := k3.1 h; have := k4.1 h; clear k1 k2 k3 k4; exact hb (by omega)
      · have := k3.2 h; have := k4.2 h; clear k1 k2 k3 k4; exact hb (by omega)
    · clear a1 a2 b1 b2 hb hd hd'
      by_cases n1 : 0 ≤ N ∧ N ≤ D
      · exact .inl (w1.2 n1)
      · by_cases n2 : 0 ≤ K ∧ K ≤ D
        · exact .inr (.inl (w2.2 n2))
        · refine .inr (.inr ?_)
          have : (N < 0 ∧ 0 < K) ∨ (0 < N ∧ K < 0) := by omega
          have hr : r < 0 := m.2.1.2 (by omega)
          have := k.2.1.1 hr
          omega
/-- lines that cross have boxes that are not apart: one side of it -/
theorem cross_box {a b c d m n m' n' : Int} (h : a + c = b + d) (e : c * n - d * m + a * n' - b * m' = 0) (hab : (0 < a ∧ b < 0) ∨ (a < 0 ∧ 0 < b)) (hcd : (0 < c ∧ d < 0) ∨ (c < 0 ∧ 0 < d)) : ¬(max m n < min m' n') := by
  intro hl
  obtain ⟨M, h1, h2, h3, h4⟩ : ∃ M, m ≤ M ∧ n ≤ M ∧ M < m' ∧ M < n' := ⟨max m n, by omega, by omega, by omega, by omega⟩
  have e' : c * (n - M) - d * (m - M) + a * (n' - M) - b * (m' - M) = 0 := by grind
  clear e
  rcases hab with ⟨ha, hb⟩ | ⟨ha, hb⟩ <;> rcases hcd with ⟨hc, hd⟩ | ⟨hc, hd⟩
  · omega
  · have k1 : 0 ≤ c * (n - M) := Int.mul_nonneg_of_nonpos_of_nonpos (by omega) (by omega)
    have k2 : d * (m - M) ≤ 0 := Int.mul_nonpos_of_nonneg_of_nonpos (by omega) (by omega)
    have k3 : 0 < a * (n' - M) := Int.mul_pos ha (by omega)
    have k4 : b * (m' - M) < 0 := Int.mul_neg_of_neg_of_pos hb (by omega)
    omega
  · have k1 : c * (n - M) ≤ 0 := Int.mul_nonpos_of_nonneg_of_nonpos (by omega) (by omega)
    have k2 : 0 ≤ d * (m - M) := Int.mul_nonneg_of_nonpos_of_nonpos (by omega) (by omega)
    have k3 : a * (n' - M) < 0 := Int.mul_neg_of_neg_of_pos ha (by omega)
    have k4 : 0 < b * (m' - M) := Int.mul_pos hb (by omega)
    omega
  · omega
theorem crs_four (x y z u s t p q : Int) : crs x y z u s t + crs s t p q x y = crs x y z u p q + crs s t p q z u := by unfold crs; grind
/-- lines that cross have boxes that are not apart -/
theorem not_apt {x y z u s t p q : Int} (hab : crs x y z u s t * crs x y z u p q < 0) (hcd : crs s t p q x y * crs s t p q z u < 0) : ¬apt x y z u s t p q := by
  rw [(mul_sg _ _).2.1] at hab hcd
  have h := crs_four x y z u s t p q
  have ex : crs s t p q x y * z - crs s t p q z u * x + crs x y z u s t * p - crs x y z u p q * s = 0 := by unfold crs; grind
  have ey : crs s t p q x y * u - crs s t p q z u * y + crs x y z u s t * q - crs x y z u p q * t = 0 := by unfold crs; grind
  have g1 := cross_box h ex hab hcd
  have g2 := cross_box h ey hab hcd
  have g3 := @cross_box (crs s t p q x y) (crs s t p q z u) (crs x y z u s t) (crs x y z u p q) s p x z (by omega) (by omega) hcd hab
  have g4 := @cross_box (crs s t p q x y) (crs s t p q z u) (crs x y z u s t) (crs x y z u p q) t q y u (by omega) (by omega) hcd hab
  unfold apt
  omega
/-- is a point on a line (both may be)? -/
def onZ (x y z u s t : Int) : Prop := crs x y z u s t = 0 ∧ dts s t x y z u ≤ 0
theorem apt_box {x y z u s t p q : Int} (h : (min x z ≤ s ∧ s ≤ max x z) ∧ (min y u ≤ t ∧ t ≤ max y u)) : ¬apt x y z u s t p q := by unfold apt; omega
theorem apt_box' {x y z u s t p q : Int} (h : (min x z ≤ p ∧ p ≤ max x z) ∧ (min y u ≤ q ∧ q ≤ max y u)) : ¬apt x y z u s t p q := by unfold apt; omega
theorem apt_swap {x y z u s t p q : Int} (h : ¬apt s t p q x y z u) : ¬apt x y z u s t p q := by unfold apt at *; omega
theorem dts_comm (x y z u s t : Int) : dts x y s t z u = dts x y z u s t := by unfold dts; grind
theorem crs_flip (x y z u s t : Int) : crs x y s t z u = -crs x y z u s t := by unfold crs; grind
theorem mul_zero_le {a b : Int} (h : a = 0) : a * b ≤ 0 := by rw [h, Int.zero_mul]; exact Int.le_refl 0
/-- touching, told by sides and boxes, is touching told by ends on lines, and ends on both sides -/
theorem touch_way {x y z u s t p q : Int} (hd : ¬(x = z ∧ y = u)) (hd' : ¬(s = p ∧ t = q)) :
    (¬apt x y z u s t p q ∧ crs x y z u s t * crs x y z u p q ≤ 0 ∧ crs s t p q x y * crs s t p q z u ≤ 0) ↔
    (onZ x y z u s t ∨ onZ x y z u p q ∨ onZ s t p q x y ∨ onZ s t p q z u ∨ (crs x y z u s t * crs x y z u p q < 0 ∧ crs s t p q x y * crs s t p q z u < 0)) := by
  have hswap : ¬(p = s ∧ q = t) := by omega
  have hswap' : ¬(z = x ∧ u = y) := by omega
  constructor
  · rintro ⟨hb, h1, h2⟩
    have four := crs_four x y z u s t p q
    by_cases a : crs x y z u s t = 0
    · by_cases b : crs x y z u p q = 0
      · have := on_flat hd a b hb
        rcases this with h | h | h
        · exact .inl ⟨a, h⟩
        · exact .inr (.inl ⟨b, h⟩)
        · refine .inr (.inr (.inl ⟨?_, h⟩))
          have hD := len_pos hd
          have e : len x y z u * crs s t p q x y = 0 := by
            unfold crs at a b ⊢; unfold len dts
            grind
          exact ((@pos_mul _ (crs s t p q x y) hD).2.2).1 e
      · exact .inl ⟨a, on_of_cross hd a b h2⟩
    · by_cases b : crs x y z u p q = 0
      · refine .inr (.inl ⟨b, on_of_cross (p := s) (q := t) hd b a ?_⟩)
        have e1 : crs p q s t x y = -crs s t p q x y := crs_swap ..
        have e2 : crs p q s t z u = -crs s t p q z u := crs_swap ..
        rw [e1, e2, Int.neg_mul_neg]; exact h2
      · by_cases c : crs s t p q x y = 0
        · by_cases d : crs s t p q z u = 0
          · exfalso
            have hab : crs x y z u s t = crs x y z u p q := by omega
            rw [hab] at h1
            have := sq_pos b
            omega
          · exact .inr (.inr (.inl ⟨c, on_of_cross (p := z) (q := u) hd' c d h1⟩))
        · by_cases d : crs s t p q z u = 0
          · refine .inr (.inr (.inr (.inl ⟨d, on_of_cross (p := x) (q := y) hd' d c ?_⟩)))
            have e1 : crs z u x y s t = -crs x y z u s t := crs_swap ..
            have e2 : crs z u x y p q = -crs x y z u p q := crs_swap ..
            rw [e1, e2, Int.neg_mul_neg]; exact h1
          · refine .inr (.inr (.inr (.inr ?_)))
            have m1 := (mul_sg (crs x y z u s t) (crs x y z u p q)).2.2
            have m2 := (mul_sg (crs s t p q x y) (crs s t p q z u)).2.2
            omega
  · rintro (⟨h, ho⟩ | ⟨h, ho⟩ | ⟨h, ho⟩ | ⟨h, ho⟩ | ⟨h1, h2⟩)
    · exact ⟨apt_box (in_box hd h ho), mul_zero_le h, cross_of_on hd h ho⟩
    · refine ⟨apt_box' (in_box hd h ho), by rw [Int.mul_comm]; exact mul_zero_le h, ?_⟩
      have := @cross_of_on x y z u p q s t hd h ho
      rw [crs_swap s t p q x y, crs_swap s t p q z u, Int.neg_mul_neg] at this
      exact this
    · exact ⟨apt_swap (apt_box (in_box hd' h ho)), cross_of_on hd' h ho, mul_zero_le h⟩
    · refine ⟨apt_swap (apt_box' (in_box hd' h ho)), ?_, by rw [Int.mul_comm]; exact mul_zero_le h⟩
      have := @cross_of_on s t p q z u x y hd' h ho
      rw [crs_swap x y z u s t, crs_swap x y z u p q, Int.neg_mul_neg] at this
      exact this
    · exact ⟨not_apt h1 h2, by omega, by omega⟩
/-- of points on a line that goes farther which goes farther along -/
theorem far_way {x y z u s t p q : Int} (hd : ¬(x = z ∧ y = u)) (h : crs x y z u s t = 0) (ho : dts s t x y z u ≤ 0) (h' : crs x y z u p q = 0) (ho' : dts p q x y z u ≤ 0) :
    (len x y s t < len x y p q ↔ dts x y z u s t < dts x y z u p q) ∧ (len x y p q < len x y s t ↔ dts x y z u p q < dts x y z u s t) := by
  rw [on_way hd h] at ho
  rw [on_way hd h'] at ho'
  have hD := len_pos hd
  have e1 : len x y z u * len x y s t = dts x y z u s t * dts x y z u s t := by
    unfold crs at h; unfold len dts; grind
  have e2 : len x y z u * len x y p q = dts x y z u p q * dts x y z u p q := by
    unfold crs at h'; unfold len dts; grind
  have e : len x y z u * (len x y p q - len x y s t) = (dts x y z u p q - dts x y z u s t) * (dts x y z u p q + dts x y z u s t) := by
    rw [Int.mul_sub, e1, e2]; grind
  have k := @pos_mul _ (len x y p q - len x y s t) hD
  rw [e] at k
  have m := mul_sg (dts x y z u p q - dts x y z u s t) (dts x y z u p q + dts x y z u s t)
  generalize (dts x y z u p q - dts x y z u s t) * (dts x y z u p q + dts x y z u s t) = r at *
  omega
/-- seen from the other end -/
theorem dts_back (x y z u s t : Int) : dts z u x y s t = len x y z u - dts x y z u s t := by unfold len dts; grind
theorem len_back (x y z u : Int) : len z u x y = len x y z u := by unfold len dts; grind
end OrM

/- package orient, and cmp.Compare: contracts over the translation. -/
namespace Go.Proofs.YtacicfmalhhceaaGreatDoor.OrW
open Go.RowKit
open KM PtM OrM PtW
/-- which of two is less -/
def cmpV (a b : Int) : Int := if a < b then -1 else if b < a then 1 else 0
def sgn (n : Int) : Int := cmpV n 0
set_option maxRecDepth 100000 in
set_option maxHeartbeats 3200000 in
theorem isNaN_any (a : Int) (w : World) : Calls Tryz.prog 151 #[.int .i64 a] w (Ret (.bool false) w) := by
  have e : (a != a) = false := by simp
  refine enter fun u => ?_
  go_enter Tryz.func151, Tryz.ntmps151
  go_wp2_with (fail)
  go_ret
  exact ⟨rfl, KW.below _⟩
set_option maxRecDepth 100000 in
set_option maxHeartbeats 3200000 in
theorem compare_any (a b : Int) (w : World) : Calls Tryz.prog 122 #[.int .i64 a, .int .i64 b] w (Ret (.int .i64 (cmpV a b)) w) := by
  have HA := Lib.hid (fun w => isNaN_any a w)
  have HB := Lib.hid (fun w => isNaN_any b w)
  unfold cmpV
  by_cases h : a < b
  · rw [if_pos h]
    have e1 : decide (a < b) = true := decide_eq_true h
    clear h
    refine enter fun u => ?_
    go_enter Tryz.func122, Tryz.ntmps122
    go_wp2_with (first
      | ((with_reducible refine ls_skip ?_ ?_); (exact rfl); (try simp only [Act.put, List.setIfInBounds_toArray, List.set_cons_succ, List.set_cons_zero]))
      | (go_at_call 151; (with_reducible refine (HA.out _).mono ?_); rintro e w' ⟨rfl, hb'⟩; obtain ⟨_, rfl⟩ := KW.go _ hb'; clear hb')
      | (go_at_call 151; (with_reducible refine (HB.out _).mono ?_); rintro e w' ⟨rfl, hb'⟩; obtain ⟨_, rfl⟩ := KW.go _ hb'; clear hb'))
    go_ret
    exact ⟨rfl, KW.below _⟩
  · rw [if_neg h]
    have e1 : decide (a < b) = false := decide_eq_false h
    clear h
    by_cases h : b < a
    · rw [if_pos h]
      have e2 : decide (b < a) = true := decide_eq_true h
      clear h
      refine enter fun u => ?_
      go_enter Tryz.func122, Tryz.ntmps122
      go_wp2_with (first
        | ((with_reducible refine ls_skip ?_ ?_); (exact rfl); (try simp only [Act.put, List.setIfInBounds_toArray, List.set_cons_succ, List.set_cons_zero]))
        | (go_at_call 151; (with_reducible refine (HA.out _).mono ?_); rintro e w' ⟨rfl, hb'⟩; obtain ⟨_, rfl⟩ := KW.go _ hb'; clear hb')
        | (go_at_call 151; (with_reducible refine (HB.out _).mono ?_); rintro e w' ⟨rfl, hb'⟩; obtain ⟨_, rfl⟩ := KW.go _ hb'; clear hb'))
      go_ret
      exact ⟨rfl, KW.below _⟩
    · rw [if_neg h]
      have e2 : decide (b < a) = false := decide_eq_false h
      clear h
      refine enter fun u => ?_
      go_enter Tryz.func122, Tryz.ntmps122
      go_wp2_with (first
        | ((with_reducible refine ls_skip ?_ ?_); (exact rfl); (try simp only [Act.put, List.setIfInBounds_toArray, List.set_cons_succ, List.set_cons_zero]))
        | (go_at_call 151; (with_reducible refine (HA.out _).mono ?_); rintro e w' ⟨rfl, hb'⟩; obtain ⟨_, rfl⟩ := KW.go _ hb'; clear hb')
        | (go_at_call 151; (with_reducible refine (HB.out _).mono ?_); rintro e w' ⟨rfl, hb'⟩; obtain ⟨_, rfl⟩ := KW.go _ hb'; clear hb'))
      go_ret
      exact ⟨rfl, KW.below _⟩
def sideV (x y z u s t : Int) : Int := sgn (crossV x y z u s t)
set_option maxRecDepth 100000 in
set_option maxHeartbeats 3200000 in
theorem side_any (x y z u s t : Int) (w : World) : Calls Tryz.prog 84 #[ptv x y, ptv z u, ptv s t] w (Ret (.int .i64 (sideV x y z u s t)) w) := by
  have HC := Lib.hid (fun w => cross_any x y z u s t w)
  have HP := Lib.hid (fun w => compare_any (crossV x y z u s t) 0 w)
  unfold sideV sgn
  generalize crossV x y z u s t = c at *
  generalize cmpV c 0 = d at *
  refine enter fun u => ?_
  go_enter Tryz.func84, Tryz.ntmps84
  go_wp2_with (first
    | ((with_reducible refine ls_skip ?_ ?_); (exact rfl); (try simp only [Act.put, List.setIfInBounds_toArray, List.set_cons_succ, List.set_cons_zero]))
    | ((with_reducible refine ck_box ?_); refine list_box rfl fun _ _ => ?_)
    | ((with_reducible refine ck_load ?_); first | refine ls_load rfl inferInstance inferInstance ?_ | refine ls_cell rfl inferInstance inferInstance ?_)
    | (go_at_call 88; (with_reducible refine (HC.out _).mono ?_); rintro e w' ⟨rfl, hb'⟩; obtain ⟨_, rfl⟩ := KW.go _ hb'; clear hb')
    | (go_at_call 122; (with_reducible refine (HP.out _).mono ?_); rintro e w' ⟨rfl, hb'⟩; obtain ⟨_, rfl⟩ := KW.go _ hb'; clear hb'))
  go_ret
  exact ⟨rfl, KW.below _⟩
/-- whether a point lies on a line -/
def onV (x y z u s t : Int) : Bool := lineP x y z u && mayP s t && (sideV x y z u s t == 0 && decide (dotV s t x y z u ≤ 0))
set_option maxRecDepth 100000 in
set_option maxHeartbeats 3200000 in
theorem on_any (x y z u s t : Int) (w : World) : Calls Tryz.prog 123 #[sgv x y z u, ptv s t] w (Ret (.bool (onV x y z u s t)) w) := by
  have HL := fun w => line_any x y z u w
  have HM := fun w => may_any s t w
  have HS := Lib.hid (fun w => side_any x y z u s t w)
  have HD := Lib.hid (fun w => dot_any s t x y z u w)
  unfold onV
  generalize sideV x y z u s t = c at *
  generalize dotV s t x y z u = d at *
  obtain ⟨b1, e1⟩ : ∃ b, (c == 0) = b := ⟨_, rfl⟩
  obtain ⟨b2, e2⟩ : ∃ b, decide (d ≤ 0) = b := ⟨_, rfl⟩
  rw [e1, e2]
  generalize lineP x y z u = p at *
  generalize mayP s t = q at *
  replace HL := Lib.hid HL
  replace HM := Lib.hid HM
  cases p
  · refine enter fun u => ?_
    go_enter Tryz.func123, Tryz.ntmps123
    go_wp2_with (first
      | ((with_reducible refine ls_skip ?_ ?_); (exact rfl); (try simp only [Act.put, List.setIfInBounds_toArray, List.set_cons_succ, List.set_cons_zero]))
      | ((with_reducible refine ck_box ?_); refine list_box rfl fun _ _ => ?_)
      | ((with_reducible refine ck_load ?_); first | refine ls_load rfl inferInstance inferInstance ?_ | refine ls_cell rfl inferInstance inferInstance ?_)
      | ((with_reducible refine ck_gload ?_); first | refine lsg_load rfl rfl inferInstance inferInstance ?_ | refine lsg_cell rfl rfl inferInstance inferInstance ?_)
      | (go_at_call 50; (with_reducible refine (HL.out _).mono ?_); rintro e w' ⟨rfl, hb'⟩; obtain ⟨_, rfl⟩ := KW.go _ hb'; clear hb')
      | (go_at_call 33; (with_reducible refine (HM.out _).mono ?_); rintro e w' ⟨rfl, hb'⟩; obtain ⟨_, rfl⟩ := KW.go _ hb'; clear hb'))
    go_ret
    exact ⟨rfl, KW.below _⟩
  cases q
  · refine enter fun u => ?_
    go_enter Tryz.func123, Tryz.ntmps123
    go_wp2_with (first
      | ((with_reducible refine ls_skip ?_ ?_); (exact rfl); (try simp only [Act.put, List.setIfInBounds_toArray, List.set_cons_succ, List.set_cons_zero]))
      | ((with_reducible refine ck_box ?_); refine list_box rfl fun _ _ => ?_)
      | ((with_reducible refine ck_load ?_); first | refine ls_load rfl inferInstance inferInstance ?_ | refine ls_cell rfl inferInstance inferInstance ?_)
      | ((with_reducible refine ck_gload ?_); first | refine lsg_load rfl rfl inferInstance inferInstance ?_ | refine lsg_cell rfl rfl inferInstance inferInstance ?_)
      | (go_at_call 50; (with_reducible refine (HL.out _).mono ?_); rintro e w' ⟨rfl, hb'⟩; obtain ⟨_, rfl⟩ := KW.go _ hb'; clear hb')
      | (go_at_call 33; (with_reducible refine (HM.out _).mono ?_); rintro e w' ⟨rfl, hb'⟩; obtain ⟨_, rfl⟩ := KW.go _ hb'; clear hb'))
    go_ret
    exact ⟨rfl, KW.below _⟩
  cases b1
  all_goals (
    refine enter fun u => ?_
    go_enter Tryz.func123, Tryz.ntmps123
    go_wp2_with (first
      | ((with_reducible refine ls_skip ?_ ?_); (exact rfl); (try simp only [Act.put, List.setIfInBounds_toArray, List.set_cons_succ, List.set_cons_zero]))
      | ((with_reducible refine ck_box ?_); refine list_box rfl fun _ _ => ?_)
      | ((with_reducible refine ck_load ?_); first | refine ls_load rfl inferInstance inferInstance ?_ | refine ls_cell rfl inferInstance inferInstance ?_)
      | ((with_reducible refine ck_gload ?_); first | refine lsg_load rfl rfl inferInstance inferInstance ?_ | refine lsg_cell rfl rfl inferInstance inferInstance ?_)
      | (go_at_call 50; (with_reducible refine (HL.out _).mono ?_); rintro e w' ⟨rfl, hb'⟩; obtain ⟨_, rfl⟩ := KW.go _ hb'; clear hb')
      | (go_at_call 33; (with_reducible refine (HM.out _).mono ?_); rintro e w' ⟨rfl, hb'⟩; obtain ⟨_, rfl⟩ := KW.go _ hb'; clear hb')
      | (go_at_call 84; (with_reducible refine (HS.out _).mono ?_); rintro e w' ⟨rfl, hb'⟩; obtain ⟨_, rfl⟩ := KW.go _ hb'; clear hb')
      | (go_at_call 152; (with_reducible refine (HD.out _).mono ?_); rintro e w' ⟨rfl, hb'⟩; obtain ⟨_, rfl⟩ := KW.go _ hb'; clear hb'))
    go_ret
    exact ⟨rfl, KW.below _⟩)
def insideV (x y z u s t : Int) : Bool := onV x y z u s t && !eqP s t x y && !eqP s t z u
def alongV (x y z u s t p q : Int) : Bool := lineP x y z u && lineP s t p q && (sideV x y z u s t == 0) && (sideV x y z u p q == 0)
set_option maxRecDepth 100000 in
set_option maxHeartbeats 3200000 in
theorem along_any (x y z u s t p q : Int) (w : World) : Calls Tryz.prog 54 #[sgv x y z u, sgv s t p q] w (Ret (.bool (alongV x y z u s t p q)) w) := by
  have HA := fun w => line_any x y z u w
  have HB := fun w => line_any s t p q w
  have HS := Lib.hid (fun w => side_any x y z u s t w)
  have HT := Lib.hid (fun w => side_any x y z u p q w)
  unfold alongV
  generalize sideV x y z u s t = c at *
  generalize sideV x y z u p q = d at *
  obtain ⟨b1, e1⟩ : ∃ b, (c == 0) = b := ⟨_, rfl⟩
  obtain ⟨b2, e2⟩ : ∃ b, (d == 0) = b := ⟨_, rfl⟩
  rw [e1, e2]
  generalize lineP x y z u = m at *
  generalize lineP s t p q = n at *
  replace HA := Lib.hid HA
  replace HB := Lib.hid HB
  cases m
  · refine enter fun u => ?_
    go_enter Tryz.func54, Tryz.ntmps54
    go_wp2_with (first
      | ((with_reducible refine ls_skip ?_ ?_); (exact rfl); (try simp only [Act.put, List.setIfInBounds_toArray, List.set_cons_succ, List.set_cons_zero]))
      | ((with_reducible refine ck_box ?_); refine list_box rfl fun _ _ => ?_)
      | ((with_reducible refine ck_load ?_); first | refine ls_load rfl inferInstance inferInstance ?_ | refine ls_cell rfl inferInstance inferInstance ?_)
      | ((with_reducible refine ck_gload ?_); first | refine lsg_load rfl rfl inferInstance inferInstance ?_ | refine lsg_cell rfl rfl inferInstance inferInstance ?_)
      | (go_at_call 50; (with_reducible refine (HA.out _).mono ?_); rintro e w' ⟨rfl, hb'⟩; obtain ⟨_, rfl⟩ := KW.go _ hb'; clear hb')
      | (go_at_call 50; (with_reducible refine (HB.out _).mono ?_); rintro e w' ⟨rfl, hb'⟩; obtain ⟨_, rfl⟩ := KW.go _ hb'; clear hb'))
    go_ret
    exact ⟨rfl, KW.below _⟩
  cases n
  · refine enter fun u => ?_
    go_enter Tryz.func54, Tryz.ntmps54
    go_wp2_with (first
      | ((with_reducible refine ls_skip ?_ ?_); (exact rfl); (try simp only [Act.put, List.setIfInBounds_toArray, List.set_cons_succ, List.set_cons_zero]))
      | ((with_reducible refine ck_box ?_); refine list_box rfl fun _ _ => ?_)
      | ((with_reducible refine ck_load ?_); first | refine ls_load rfl inferInstance inferInstance ?_ | refine ls_cell rfl inferInstance inferInstance ?_)
      | ((with_reducible refine ck_gload ?_); first | refine lsg_load rfl rfl inferInstance inferInstance ?_ | refine lsg_cell rfl rfl inferInstance inferInstance ?_)
      | (go_at_call 50; (with_reducible refine (HA.out _).mono ?_); rintro e w' ⟨rfl, hb'⟩; obtain ⟨_, rfl⟩ := KW.go _ hb'; clear hb')
      | (go_at_call 50; (with_reducible refine (HB.out _).mono ?_); rintro e w' ⟨rfl, hb'⟩; obtain ⟨_, rfl⟩ := KW.go _ hb'; clear hb'))
    go_ret
    exact ⟨rfl, KW.below _⟩
  cases b1
  all_goals (
    refine enter fun u => ?_
    go_enter Tryz.func54, Tryz.ntmps54
    go_wp2_with (first
      | ((with_reducible refine ls_skip ?_ ?_); (exact rfl); (try simp only [Act.put, List.setIfInBounds_toArray, List.set_cons_succ, List.set_cons_zero]))
      | ((with_reducible refine ck_box ?_); refine list_box rfl fun _ _ => ?_)
      | ((with_reducible refine ck_load ?_); first | refine ls_load rfl inferInstance inferInstance ?_ | refine ls_cell rfl inferInstance inferInstance ?_)
      | ((with_reducible refine ck_gload ?_); first | refine lsg_load rfl rfl inferInstance inferInstance ?_ | refine lsg_cell rfl rfl inferInstance inferInstance ?_)
      | (go_at_call 50; (with_reducible refine (HA.out _).mono ?_); rintro e w' ⟨rfl, hb'⟩; obtain ⟨_, rfl⟩ := KW.go _ hb'; clear hb')
      | (go_at_call 50; (with_reducible refine (HB.out _).mono ?_); rintro e w' ⟨rfl, hb'⟩; obtain ⟨_, rfl⟩ := KW.go _ hb'; clear hb')
      | (go_at_call 84; (with_reducible refine (HS.out _).mono ?_); rintro e w' ⟨rfl, hb'⟩; obtain ⟨_, rfl⟩ := KW.go _ hb'; clear hb')
      | (go_at_call 84; (with_reducible refine (HT.out _).mono ?_); rintro e w' ⟨rfl, hb'⟩; obtain ⟨_, rfl⟩ := KW.go _ hb'; clear hb'))
    go_ret
    exact ⟨rfl, KW.below _⟩)
def partsV (x y z u s t p q : Int) : Bool := decide (0 < sideV x y z u s t * sideV x y z u p q)
theorem sgn_bd (n : Int) : -1 ≤ sgn n ∧ sgn n ≤ 1 := by unfold sgn cmpV; omega
theorem sgn_mul (m n : Int) : -1 ≤ sgn m * sgn n ∧ sgn m * sgn n ≤ 1 := by
  obtain ⟨h1, h2⟩ := sgn_bd m
  obtain ⟨h3, h4⟩ := sgn_bd n
  have : sgn m = -1 ∨ sgn m = 0 ∨ sgn m = 1 := by omega
  rcases this with h | h | h <;> rw [h] <;> omega
set_option maxRecDepth 100000 in
set_option maxHeartbeats 3200000 in
theorem parts_any (x y z u s t p q : Int) (w : World) : Calls Tryz.prog 83 #[sgv x y z u, sgv s t p q] w (Ret (.bool (partsV x y z u s t p q)) w) := by
  have HS := Lib.hid (fun w => side_any x y z u s t w)
  have HT := Lib.hid (fun w => side_any x y z u p q w)
  have w1 : IntKind.i64.wrap (sideV x y z u s t * sideV x y z u p q) = sideV x y z u s t * sideV x y z u p q := by
    have := sgn_mul (crossV x y z u s t) (crossV x y z u p q)
    unfold sideV
    rw [IntKind.wrap_i64]; omega
  unfold partsV
  rw [← w1]
  clear w1
  generalize sideV x y z u s t = c at *
  generalize sideV x y z u p q = d at *
  obtain ⟨b, e⟩ : ∃ b, decide (0 < IntKind.i64.wrap (c * d)) = b := ⟨_, rfl⟩
  rw [e]
  refine enter fun u => ?_
  go_enter Tryz.func83, Tryz.ntmps83
  go_wp2_with (first
    | ((with_reducible refine ls_skip ?_ ?_); (exact rfl); (try simp only [Act.put, List.setIfInBounds_toArray, List.set_cons_succ, List.set_cons_zero]))
    | ((with_reducible refine ck_box ?_); refine list_box rfl fun _ _ => ?_))
  refine region (by kernel_rfl) (by kernel_rfl) fun _ => ?_
  refine QQ.out ?_
  repeat (first
    | ((with_reducible apply qq_skip); (exact rfl); (try simp only [Act.put, List.setIfInBounds_toArray, List.set_cons_succ, List.set_cons_zero]))
    | ((with_reducible apply qq_load); exact rfl; infer_instance; infer_instance; exact rfl; (try simp only [Act.put, List.setIfInBounds_toArray, List.set_cons_succ, List.set_cons_zero]))
    | ((with_reducible apply qq_cell); exact rfl; infer_instance; infer_instance; exact rfl; (try simp only [Act.put, List.setIfInBounds_toArray, List.set_cons_succ, List.set_cons_zero]))
    | ((with_reducible apply qq_callf (f := 84)); (intro _; go_simp; try exact rfl); (with_reducible exact fun u => HS.out _); exact rfl; (try simp only [Act.put, List.setIfInBounds_toArray, List.set_cons_succ, List.set_cons_zero]))
    | ((with_reducible apply qq_callf (f := 84)); (intro _; go_simp; try exact rfl); (with_reducible exact fun u => HT.out _); exact rfl; (try simp only [Act.put, List.setIfInBounds_toArray, List.set_cons_succ, List.set_cons_zero]))
    | ((with_reducible apply qq_value); (intro _; go_simp; try exact rfl); exact rfl; (try simp only [Act.put, List.setIfInBounds_toArray, List.set_cons_succ, List.set_cons_zero])))
  refine qq_nil ?_
  rintro _ ⟨u7, rfl⟩
  go_wp2_with (fail)
  go_ret
  exact ⟨rfl, KW.below _⟩
def touchW (x y z u s t p q : Int) : Bool := lineP x y z u && lineP s t p q && !apartP x y z u s t p q && !partsV x y z u s t p q && !partsV s t p q x y z u
set_option maxRecDepth 100000 in
set_option maxHeartbeats 3200000 in
theorem touch_any (x y z u s t p q : Int) (w : World) : Calls Tryz.prog 53 #[sgv x y z u, sgv s t p q] w (Ret (.bool (touchW x y z u s t p q)) w) := by
  have HA := fun w => line_any x y z u w
  have HB := fun w => line_any s t p q w
  have HC := fun w => apart_any x y z u s t p q w
  have HS := fun w => parts_any x y z u s t p q w
  have HT := fun w => parts_any s t p q x y z u w
  unfold touchW
  generalize lineP x y z u = m at *
  generalize lineP s t p q = n at *
  generalize apartP x y z u s t p q = o at *
  generalize partsV x y z u s t p q = c at *
  generalize partsV s t p q x y z u = d at *
  replace HA := Lib.hid HA
  replace HB := Lib.hid HB
  replace HC := Lib.hid HC
  replace HS := Lib.hid HS
  replace HT := Lib.hid HT
  cases m
  · refine enter fun u => ?_
    go_enter Tryz.func53, Tryz.ntmps53
    go_wp2_with (first
      | ((with_reducible refine ls_skip ?_ ?_); (exact rfl); (try simp only [Act.put, List.setIfInBounds_toArray, List.set_cons_succ, List.set_cons_zero]))
      | ((with_reducible refine ck_box ?_); refine list_box rfl fun _ _ => ?_)
      | ((with_reducible refine ck_load ?_); first | refine ls_load rfl inferInstance inferInstance ?_ | refine ls_cell rfl inferInstance inferInstance ?_)
      | ((with_reducible refine ck_gload ?_); first | refine lsg_load rfl rfl inferInstance inferInstance ?_ | refine lsg_cell rfl rfl inferInstance inferInstance ?_)
      | (go_at_call 50; (with_reducible refine (HA.out _).mono ?_); rintro e w' ⟨rfl, hb'⟩; obtain ⟨_, rfl⟩ := KW.go _ hb'; clear hb')
      | (go_at_call 50; (with_reducible refine (HB.out _).mono ?_); rintro e w' ⟨rfl, hb'⟩; obtain ⟨_, rfl⟩ := KW.go _ hb'; clear hb')
      | (go_at_call 82; (with_reducible refine (HC.out _).mono ?_); rintro e w' ⟨rfl, hb'⟩; obtain ⟨_, rfl⟩ := KW.go _ hb'; clear hb'))
    go_ret
    exact ⟨rfl, KW.below _⟩
  cases n
  · refine enter fun u => ?_
    go_enter Tryz.func53, Tryz.ntmps53
    go_wp2_with (first
      | ((with_reducible refine ls_skip ?_ ?_); (exact rfl); (try simp only [Act.put, List.setIfInBounds_toArray, List.set_cons_succ, List.set_cons_zero]))
      | ((with_reducible refine ck_box ?_); refine list_box rfl fun _ _ => ?_)
      | ((with_reducible refine ck_load ?_); first | refine ls_load rfl inferInstance inferInstance ?_ | refine ls_cell rfl inferInstance inferInstance ?_)
      | ((with_reducible refine ck_gload ?_); first | refine lsg_load rfl rfl inferInstance inferInstance ?_ | refine lsg_cell rfl rfl inferInstance inferInstance ?_)
      | (go_at_call 50; (with_reducible refine (HA.out _).mono ?_); rintro e w' ⟨rfl, hb'⟩; obtain ⟨_, rfl⟩ := KW.go _ hb'; clear hb')
      | (go_at_call 50; (with_reducible refine (HB.out _).mono ?_); rintro e w' ⟨rfl, hb'⟩; obtain ⟨_, rfl⟩ := KW.go _ hb'; clear hb')
      | (go_at_call 82; (with_reducible refine (HC.out _).mono ?_); rintro e w' ⟨rfl, hb'⟩; obtain ⟨_, rfl⟩ := KW.go _ hb'; clear hb'))
    go_ret
    exact ⟨rfl, KW.below _⟩
  cases o
  · cases c
    all_goals (
      refine enter fun u => ?_
      go_enter Tryz.func53, Tryz.ntmps53
      go_wp2_with (first
        | ((with_reducible refine ls_skip ?_ ?_); (exact rfl); (try simp only [Act.put, List.setIfInBounds_toArray, List.set_cons_succ, List.set_cons_zero]))
        | ((with_reducible refine ck_box ?_); refine list_box rfl fun _ _ => ?_)
        | ((with_reducible refine ck_load ?_); first | refine ls_load rfl inferInstance inferInstance ?_ | refine ls_cell rfl inferInstance inferInstance ?_)
        | ((with_reducible refine ck_gload ?_); first | refine lsg_load rfl rfl inferInstance inferInstance ?_ | refine lsg_cell rfl rfl inferInstance inferInstance ?_)
        | (go_at_call 50; (with_reducible refine (HA.out _).mono ?_); rintro e w' ⟨rfl, hb'⟩; obtain ⟨_, rfl⟩ := KW.go _ hb'; clear hb')
        | (go_at_call 50; (with_reducible refine (HB.out _).mono ?_); rintro e w' ⟨rfl, hb'⟩; obtain ⟨_, rfl⟩ := KW.go _ hb'; clear hb')
        | (go_at_call 82; (with_reducible refine (HC.out _).mono ?_); rintro e w' ⟨rfl, hb'⟩; obtain ⟨_, rfl⟩ := KW.go _ hb'; clear hb')
        | (go_at_call 83; (with_reducible refine (HS.out _).mono ?_); rintro e w' ⟨rfl, hb'⟩; obtain ⟨_, rfl⟩ := KW.go _ hb'; clear hb')
        | (go_at_call 83; (with_reducible refine (HT.out _).mono ?_); rintro e w' ⟨rfl, hb'⟩; obtain ⟨_, rfl⟩ := KW.go _ hb'; clear hb'))
      go_ret
      exact ⟨rfl, KW.below _⟩)
  · refine enter fun u => ?_
    go_enter Tryz.func53, Tryz.ntmps53
    go_wp2_with (first
      | ((with_reducible refine ls_skip ?_ ?_); (exact rfl); (try simp only [Act.put, List.setIfInBounds_toArray, List.set_cons_succ, List.set_cons_zero]))
      | ((with_reducible refine ck_box ?_); refine list_box rfl fun _ _ => ?_)
      | ((with_reducible refine ck_load ?_); first | refine ls_load rfl inferInstance inferInstance ?_ | refine ls_cell rfl inferInstance inferInstance ?_)
      | ((with_reducible refine ck_gload ?_); first | refine lsg_load rfl rfl inferInstance inferInstance ?_ | refine lsg_cell rfl rfl inferInstance inferInstance ?_)
      | (go_at_call 50; (with_reducible refine (HA.out _).mono ?_); rintro e w' ⟨rfl, hb'⟩; obtain ⟨_, rfl⟩ := KW.go _ hb'; clear hb')
      | (go_at_call 50; (with_reducible refine (HB.out _).mono ?_); rintro e w' ⟨rfl, hb'⟩; obtain ⟨_, rfl⟩ := KW.go _ hb'; clear hb')
      | (go_at_call 82; (with_reducible refine (HC.out _).mono ?_); rintro e w' ⟨rfl, hb'⟩; obtain ⟨_, rfl⟩ := KW.go _ hb'; clear hb'))
    go_ret
    exact ⟨rfl, KW.below _⟩
def orderV (x y z u s t p q : Int) : Int := if (onV x y z u s t && onV x y z u p q) = true then cmpV (dotV x y s t s t) (dotV x y p q p q) else 0
set_option maxRecDepth 100000 in
set_option maxHeartbeats 3200000 in
theorem order_any (x y z u s t p q : Int) (w : World) : Calls Tryz.prog 124 #[sgv x y z u, ptv s t, ptv p q] w (Ret (.int .i64 (orderV x y z u s t p q)) w) := by
  have HA := fun w => on_any x y z u s t w
  have HB := fun w => on_any x y z u p q w
  have HS := Lib.hid (fun w => far_any x y s t w)
  have HT := Lib.hid (fun w => far_any x y p q w)
  have HC := Lib.hid (fun w => compare_any (dotV x y s t s t) (dotV x y p q p q) w)
  unfold orderV
  generalize onV x y z u s t = m at *
  generalize onV x y z u p q = n at *
  generalize dotV x y s t s t = c at *
  generalize dotV x y p q p q = d at *
  generalize cmpV c d = r at *
  replace HA := Lib.hid HA
  replace HB := Lib.hid HB
  cases m
  · rw [Bool.false_and, if_neg (by decide)]
    refine enter fun u => ?_
    go_enter Tryz.func124, Tryz.ntmps124
    go_wp2_with (first
      | ((with_reducible refine ls_skip ?_ ?_); (exact rfl); (try simp only [Act.put, List.setIfInBounds_toArray, List.set_cons_succ, List.set_cons_zero]))
      | ((with_reducible refine ck_box ?_); refine list_box rfl fun _ _ => ?_)
      | ((with_reducible refine ck_load ?_); first | refine ls_load rfl inferInstance inferInstance ?_ | refine ls_cell rfl inferInstance inferInstance ?_)
      | ((with_reducible refine ck_gload ?_); first | refine lsg_load rfl rfl inferInstance inferInstance ?_ | refine lsg_cell rfl rfl inferInstance inferInstance ?_)
      | (go_at_call 123; (with_reducible refine (HA.out _).mono ?_); rintro e w' ⟨rfl, hb'⟩; obtain ⟨_, rfl⟩ := KW.go _ hb'; clear hb')
      | (go_at_call 123; (with_reducible refine (HB.out _).mono ?_); rintro e w' ⟨rfl, hb'⟩; obtain ⟨_, rfl⟩ := KW.go _ hb'; clear hb'))
    go_ret
    exact ⟨rfl, KW.below _⟩
  cases n
  · rw [if_neg (by decide)]
    refine enter fun u => ?_
    go_enter Tryz.func124, Tryz.ntmps124
    go_wp2_with (first
      | ((with_reducible refine ls_skip ?_ ?_); (exact rfl); (try simp only [Act.put, List.setIfInBounds_toArray, List.set_cons_succ, List.set_cons_zero]))
      | ((with_reducible refine ck_box ?_); refine list_box rfl fun _ _ => ?_)
      | ((with_reducible refine ck_load ?_); first | refine ls_load rfl inferInstance inferInstance ?_ | refine ls_cell rfl inferInstance inferInstance ?_)
      | ((with_reducible refine ck_gload ?_); first | refine lsg_load rfl rfl inferInstance inferInstance ?_ | refine lsg_cell rfl rfl inferInstance inferInstance ?_)
      | (go_at_call 123; (with_reducible refine (HA.out _).mono ?_); rintro e w' ⟨rfl, hb'⟩; obtain ⟨_, rfl⟩ := KW.go _ hb'; clear hb')
      | (go_at_call 123; (with_reducible refine (HB.out _).mono ?_); rintro e w' ⟨rfl, hb'⟩; obtain ⟨_, rfl⟩ := KW.go _ hb'; clear hb'))
    go_ret
    exact ⟨rfl, KW.below _⟩
  · rw [if_pos (by decide)]
    refine enter fun u => ?_
    go_enter Tryz.func124, Tryz.ntmps124
    go_wp2_with (first
      | ((with_reducible refine ls_skip ?_ ?_); (exact rfl); (try simp only [Act.put, List.setIfInBounds_toArray, List.set_cons_succ, List.set_cons_zero]))
      | ((with_reducible refine ck_box ?_); refine list_box rfl fun _ _ => ?_)
      | ((with_reducible refine ck_load ?_); first | refine ls_load rfl inferInstance inferInstance ?_ | refine ls_cell rfl inferInstance inferInstance ?_)
      | ((with_reducible refine ck_gload ?_); first | refine lsg_load rfl rfl inferInstance inferInstance ?_ | refine lsg_cell rfl rfl inferInstance inferInstance ?_)
      | (go_at_call 123; (with_reducible refine (HA.out _).mono ?_); rintro e w' ⟨rfl, hb'⟩; obtain ⟨_, rfl⟩ := KW.go _ hb'; clear hb')
      | (go_at_call 123; (with_reducible refine (HB.out _).mono ?_); rintro e w' ⟨rfl, hb'⟩; obtain ⟨_, rfl⟩ := KW.go _ hb'; clear hb'))
    refine region (by kernel_rfl) (by kernel_rfl) fun _ => ?_
    refine QQ.out ?_
    repeat (first
      | ((with_reducible apply qq_skip); (exact rfl); (try simp only [Act.put, List.setIfInBounds_toArray, List.set_cons_succ, List.set_cons_zero]))
      | ((with_reducible apply qq_load); exact rfl; infer_instance; infer_instance; exact rfl; (try simp only [Act.put, List.setIfInBounds_toArray, List.set_cons_succ, List.set_cons_zero]))
      | ((with_reducible apply qq_cell); exact rfl; infer_instance; infer_instance; exact rfl; (try simp only [Act.put, List.setIfInBounds_toArray, List.set_cons_succ, List.set_cons_zero]))
      | ((with_reducible apply qq_callf (f := 153)); (intro _; go_simp; try exact rfl); (with_reducible exact fun u => HS.out _); exact rfl; (try simp only [Act.put, List.setIfInBounds_toArray, List.set_cons_succ, List.set_cons_zero]))
      | ((with_reducible apply qq_callf (f := 153)); (intro _; go_simp; try exact rfl); (with_reducible exact fun u => HT.out _); exact rfl; (try simp only [Act.put, List.setIfInBounds_toArray, List.set_cons_succ, List.set_cons_zero]))
      | ((with_reducible apply qq_callf (f := 122)); (intro _; go_simp; try exact rfl); (with_reducible exact fun u => HC.out _); exact rfl; (try simp only [Act.put, List.setIfInBounds_toArray, List.set_cons_succ, List.set_cons_zero]))
      | ((with_reducible apply qq_value); (intro _; go_simp; try exact rfl); exact rfl; (try simp only [Act.put, List.setIfInBounds_toArray, List.set_cons_succ, List.set_cons_zero])))
    refine qq_nil ?_
    rintro _ ⟨u7, rfl⟩
    go_wp2_with (fail)
    go_ret
    exact ⟨rfl, KW.below _⟩
end Go.Proofs.YtacicfmalhhceaaGreatDoor.OrW

/- On which side points lie: what is the same as what. -/
namespace Go.Proofs.YtacicfmalhhceaaGreatDoor.OrW
open Go.RowKit
open KM PtM OrM PtW
theorem line_iff {x y z u : Int} : lineP x y z u = true ↔ mayP x y = true ∧ mayP z u = true ∧ ¬(x = z ∧ y = u) := by
  unfold lineP eqP
  rw [Bool.and_eq_true, Bool.and_eq_true, Bool.not_eq_true', ← Bool.not_eq_true, Bool.and_eq_true, beq_iff_eq, beq_iff_eq, and_assoc]
theorem crossV_is {x y z u s t : Int} (h1 : mayP x y = true) (h2 : mayP z u = true) (h3 : mayP s t = true) : crossV x y z u s t = crs x y z u s t := by
  unfold crossV; rw [h1, h2, h3]; rfl
theorem dotV_is {x y z u s t : Int} (h1 : mayP x y = true) (h2 : mayP z u = true) (h3 : mayP s t = true) : dotV x y z u s t = dts x y z u s t := by
  unfold dotV; rw [h1, h2, h3]; rfl
theorem sgn_zero {n : Int} : sgn n = 0 ↔ n = 0 := by unfold sgn cmpV; split <;> (try split) <;> omega
theorem sgn_pos {n : Int} : sgn n = 1 ↔ 0 < n := by unfold sgn cmpV; split <;> (try split) <;> omega
theorem sgn_neg {n : Int} : sgn n = -1 ↔ n < 0 := by unfold sgn cmpV; split <;> (try split) <;> omega
theorem sgn_flip (n : Int) : sgn (-n) = -sgn n := by unfold sgn cmpV; split <;> split <;> (try split) <;> (try split) <;> omega
theorem cmp_sgn (a b : Int) : cmpV a b = sgn (a - b) := by unfold sgn cmpV; split <;> split <;> (try split) <;> (try split) <;> omega
theorem onV_iff {x y z u s t : Int} : onV x y z u s t = true ↔ lineP x y z u = true ∧ mayP s t = true ∧ onZ x y z u s t := by
  unfold onV sideV onZ
  rw [Bool.and_eq_true, Bool.and_eq_true, Bool.and_eq_true, beq_iff_eq, decide_eq_true_eq, sgn_zero, and_assoc]
  constructor
  · rintro ⟨h1, h2, h3, h4⟩
    obtain ⟨a, b, _⟩ := line_iff.1 h1
    rw [crossV_is a b h2] at h3
    rw [dotV_is h2 a b] at h4
    exact ⟨h1, h2, h3, h4⟩
  · rintro ⟨h1, h2, h3, h4⟩
    obtain ⟨a, b, _⟩ := line_iff.1 h1
    rw [crossV_is a b h2, dotV_is h2 a b]
    exact ⟨h1, h2, h3, h4⟩
/-- as the document tells whether a point is on a line -/
def onR (x y z u s t : Int) : Bool := lineP x y z u && mayP s t && (crossV x y z u s t == 0 && decide (0 ≤ dotV x y z u s t) && decide (dotV x y z u s t ≤ dotV x y z u z u))
theorem on_eq (x y z u s t : Int) : onR x y z u s t = onV x y z u s t := by
  rw [Bool.eq_iff_iff, onV_iff]
  unfold onR
  rw [Bool.and_eq_true, Bool.and_eq_true, Bool.and_eq_true, Bool.and_eq_true, beq_iff_eq, decide_eq_true_eq, decide_eq_true_eq, and_assoc, and_assoc]
  constructor
  · rintro ⟨h1, h2, h3, h4, h5⟩
    obtain ⟨a, b, c⟩ := line_iff.1 h1
    rw [crossV_is a b h2] at h3
    rw [dotV_is a b h2] at h4 h5
    rw [dotV_is a b b] at h5
    exact ⟨h1, h2, h3, (on_way c h3).2 ⟨h4, h5⟩⟩
  · rintro ⟨h1, h2, h3, h4⟩
    obtain ⟨a, b, c⟩ := line_iff.1 h1
    rw [crossV_is a b h2, dotV_is a b h2, dotV_is a b b]
    obtain ⟨h5, h6⟩ := (on_way c h3).1 h4
    exact ⟨h1, h2, h3, h5, h6⟩
/-- ends on both sides -/
def oppV (a b c d : Int) : Bool := a != 0 && b != 0 && c != 0 && d != 0 && a != b && c != d
/-- as the document tells whether lines touch -/
def touchV (x y z u s t p q : Int) : Bool := lineP x y z u && lineP s t p q && (onV x y z u s t || onV x y z u p q || onV s t p q x y || onV s t p q z u ||
  oppV (sideV x y z u s t) (sideV x y z u p q) (sideV s t p q x y) (sideV s t p q z u))
def touchZ (x y z u s t p q : Int) : Prop := onZ x y z u s t ∨ onZ x y z u p q ∨ onZ s t p q x y ∨ onZ s t p q z u ∨ (crs x y z u s t * crs x y z u p q < 0 ∧ crs s t p q x y * crs s t p q z u < 0)
theorem sgn_cases (n : Int) : (n < 0 ∧ sgn n = -1) ∨ (n = 0 ∧ sgn n = 0) ∨ (0 < n ∧ sgn n = 1) := by
  unfold sgn cmpV; split <;> (try split) <;> omega
theorem opp_iff (a b c d : Int) : oppV (sgn a) (sgn b) (sgn c) (sgn d) = true ↔ a * b < 0 ∧ c * d < 0 := by
  unfold oppV
  rw [(mul_sg a b).2.1, (mul_sg c d).2.1]
  simp only [Bool.and_eq_true, bne_iff_ne, ne_eq]
  have h1 := sgn_cases a
  have h2 := sgn_cases b
  have h3 := sgn_cases c
  have h4 := sgn_cases d
  generalize sgn a = A at *
  generalize sgn b = B at *
  generalize sgn c = C at *
  generalize sgn d = D at *
  omega
theorem touchV_iff {x y z u s t p q : Int} : touchV x y z u s t p q = true ↔ lineP x y z u = true ∧ lineP s t p q = true ∧ touchZ x y z u s t p q := by
  unfold touchV sideV touchZ
  rw [Bool.and_eq_true, Bool.and_eq_true, Bool.or_eq_true, Bool.or_eq_true, Bool.or_eq_true, Bool.or_eq_true, onV_iff, onV_iff, onV_iff, onV_iff, opp_iff, and_assoc]
  constructor
  · rintro ⟨h1, h2, h⟩
    obtain ⟨a1, b1, c1⟩ := line_iff.1 h1
    obtain ⟨a2, b2, c2⟩ := line_iff.1 h2
    rw [crossV_is a1 b1 a2, crossV_is a1 b1 b2, crossV_is a2 b2 a1, crossV_is a2 b2 b1] at h
    refine ⟨h1, h2, ?_⟩
    rcases h with (((h | h) | h) | h) | h
    · exact .inl h.2.2
    · exact .inr (.inl h.2.2)
    · exact .inr (.inr (.inl h.2.2))
    · exact .inr (.inr (.inr (.inl h.2.2)))
    · exact .inr (.inr (.inr (.inr h)))
  · rintro ⟨h1, h2, h⟩
    obtain ⟨a1, b1, c1⟩ := line_iff.1 h1
    obtain ⟨a2, b2, c2⟩ := line_iff.1 h2
    rw [crossV_is a1 b1 a2, crossV_is a1 b1 b2, crossV_is a2 b2 a1, crossV_is a2 b2 b1]
    refine ⟨h1, h2, ?_⟩
    rcases h with h | h | h | h | h
    · exact .inl (.inl (.inl (.inl ⟨h1, a2, h⟩)))
    · exact .inl (.inl (.inl (.inr ⟨h1, b2, h⟩)))
    · exact .inl (.inl (.inr ⟨h2, a1, h⟩))
    · exact .inl (.inr ⟨h2, b1, h⟩)
    · exact .inr h
theorem parts_iff (a b : Int) : decide (0 < sgn a * sgn b) = true ↔ 0 < a * b := by
  rw [decide_eq_true_eq, (mul_sg a b).1, (mul_sg (sgn a) (sgn b)).1]
  have h1 := sgn_cases a
  have h2 := sgn_cases b
  generalize sgn a = A at *
  generalize sgn b = B at *
  omega
theorem apart_iff (x y z u s t p q : Int) : apartB x y z u s t p q = true ↔ apt x y z u s t p q := by
  unfold apartB apt
  rw [Bool.or_eq_true, Bool.or_eq_true, Bool.or_eq_true, decide_eq_true_eq, decide_eq_true_eq, decide_eq_true_eq, decide_eq_true_eq, or_assoc, or_assoc]
theorem touch_eq (x y z u s t p q : Int) : touchW x y z u s t p q = touchV x y z u s t p q := by
  rw [Bool.eq_iff_iff, touchV_iff]
  unfold touchW apartP partsV sideV
  constructor
  · intro h
    rw [Bool.and_eq_true, Bool.and_eq_true, Bool.and_eq_true, Bool.and_eq_true, Bool.not_eq_true', Bool.not_eq_true', Bool.not_eq_true', ← Bool.not_eq_true, ← Bool.not_eq_true, ← Bool.not_eq_true, parts_iff, parts_iff] at h
    obtain ⟨⟨⟨⟨h1, h2⟩, h3⟩, h4⟩, h5⟩ := h
    rw [h1, h2, Bool.true_and, Bool.true_and, apart_iff] at h3
    obtain ⟨a1, b1, c1⟩ := line_iff.1 h1
    obtain ⟨a2, b2, c2⟩ := line_iff.1 h2
    rw [crossV_is a1 b1 a2, crossV_is a1 b1 b2] at h4
    rw [crossV_is a2 b2 a1, crossV_is a2 b2 b1] at h5
    exact ⟨h1, h2, (touch_way c1 c2).1 ⟨h3, by omega, by omega⟩⟩
  · rintro ⟨h1, h2, h⟩
    obtain ⟨a1, b1, c1⟩ := line_iff.1 h1
    obtain ⟨a2, b2, c2⟩ := line_iff.1 h2
    obtain ⟨h3, h4, h5⟩ := (touch_way c1 c2).2 h
    rw [Bool.and_eq_true, Bool.and_eq_true, Bool.and_eq_true, Bool.and_eq_true, Bool.not_eq_true', Bool.not_eq_true', Bool.not_eq_true', ← Bool.not_eq_true, ← Bool.not_eq_true, ← Bool.not_eq_true, parts_iff, parts_iff]
    rw [h1, h2, Bool.true_and, Bool.true_and, apart_iff]
    rw [crossV_is a1 b1 a2, crossV_is a1 b1 b2, crossV_is a2 b2 a1, crossV_is a2 b2 b1]
    exact ⟨⟨⟨⟨rfl, rfl⟩, h3⟩, by omega⟩, by omega⟩
theorem onZ_back (x y z u s t : Int) : onZ z u x y s t ↔ onZ x y z u s t := by
  unfold onZ
  rw [crs_swap x y z u s t, dts_comm s t x y z u]
  omega
theorem touchZ_comm (x y z u s t p q : Int) : touchZ s t p q x y z u ↔ touchZ x y z u s t p q := by
  unfold touchZ
  constructor
  all_goals (
    rintro (h | h | h | h | ⟨h, h'⟩)
    · exact .inr (.inr (.inl h))
    · exact .inr (.inr (.inr (.inl h)))
    · exact .inl h
    · exact .inr (.inl h)
    · exact .inr (.inr (.inr (.inr ⟨h', h⟩))))
theorem touchZ_back (x y z u s t p q : Int) : touchZ z u x y s t p q ↔ touchZ x y z u s t p q := by
  unfold touchZ
  rw [onZ_back x y z u s t, onZ_back x y z u p q, crs_swap x y z u s t, crs_swap x y z u p q, Int.neg_mul_neg, Int.mul_comm (crs s t p q z u)]
  constructor
  all_goals (
    rintro (h | h | h | h | h)
    · exact .inl h
    · exact .inr (.inl h)
    · exact .inr (.inr (.inr (.inl h)))
    · exact .inr (.inr (.inl h))
    · exact .inr (.inr (.inr (.inr h))))
theorem line_back (x y z u : Int) : lineP z u x y = lineP x y z u := by
  rw [Bool.eq_iff_iff, line_iff, line_iff]
  constructor
  all_goals (rintro ⟨h1, h2, h3⟩; exact ⟨h2, h1, by omega⟩)
theorem touch_comm (x y z u s t p q : Int) : touchV s t p q x y z u = touchV x y z u s t p q := by
  rw [Bool.eq_iff_iff, touchV_iff, touchV_iff, touchZ_comm]
  exact ⟨fun ⟨a, b, c⟩ => ⟨b, a, c⟩, fun ⟨a, b, c⟩ => ⟨b, a, c⟩⟩
theorem touch_back (x y z u s t p q : Int) : touchV z u x y s t p q = touchV x y z u s t p q := by
  rw [Bool.eq_iff_iff, touchV_iff, touchV_iff, touchZ_back, line_back]
theorem on_back (x y z u s t : Int) : onV z u x y s t = onV x y z u s t := by
  rw [Bool.eq_iff_iff, onV_iff, onV_iff, onZ_back, line_back]
theorem alongV_iff {x y z u s t p q : Int} : alongV x y z u s t p q = true ↔ lineP x y z u = true ∧ lineP s t p q = true ∧ crs x y z u s t = 0 ∧ crs x y z u p q = 0 := by
  unfold alongV sideV
  rw [Bool.and_eq_true, Bool.and_eq_true, Bool.and_eq_true, beq_iff_eq, beq_iff_eq, sgn_zero, sgn_zero, and_assoc, and_assoc]
  constructor
  all_goals (
    rintro ⟨h1, h2, h⟩
    obtain ⟨a1, b1, c1⟩ := line_iff.1 h1
    obtain ⟨a2, b2, c2⟩ := line_iff.1 h2
    first | rw [crossV_is a1 b1 a2, crossV_is a1 b1 b2] at h | rw [crossV_is a1 b1 a2, crossV_is a1 b1 b2]
    exact ⟨h1, h2, h⟩)
/-- all ends on the straight line of one are on that of the other one -/
theorem flat {x y z u s t p q : Int} (hd : ¬(x = z ∧ y = u)) (a : crs x y z u s t = 0) (b : crs x y z u p q = 0) : crs s t p q x y = 0 ∧ crs s t p q z u = 0 := by
  have hD := len_pos hd
  have e : len x y z u * crs s t p q x y = 0 := by
    unfold crs at a b ⊢; unfold len dts; grind
  have e' : len x y z u * crs s t p q z u = 0 := by
    unfold crs at a b ⊢; unfold len dts; grind
  exact ⟨((@pos_mul _ (crs s t p q x y) hD).2.2).1 e, ((@pos_mul _ (crs s t p q z u) hD).2.2).1 e'⟩
theorem along_comm (x y z u s t p q : Int) : alongV s t p q x y z u = alongV x y z u s t p q := by
  rw [Bool.eq_iff_iff, alongV_iff, alongV_iff]
  constructor
  all_goals (
    rintro ⟨h1, h2, h3, h4⟩
    exact ⟨h2, h1, flat (line_iff.1 h1).2.2 h3 h4⟩)
/-- as the document tells which comes ahead -/
def orderR (x y z u s t p q : Int) : Int := if (onV x y z u s t && onV x y z u p q) = true then sgn (dotV x y z u s t - dotV x y z u p q) else 0
theorem order_eq (x y z u s t p q : Int) : orderR x y z u s t p q = orderV x y z u s t p q := by
  unfold orderR orderV
  cases h : onV x y z u s t && onV x y z u p q with
  | false => rw [if_neg (by decide), if_neg (by decide)]
  | true =>
    rw [if_pos rfl, if_pos rfl]
    rw [Bool.and_eq_true, onV_iff, onV_iff] at h
    obtain ⟨⟨h1, h2, h3, h4⟩, _, h5, h6, h7⟩ := h
    obtain ⟨a, b, c⟩ := line_iff.1 h1
    rw [dotV_is a b h2, dotV_is a b h5, dotV_is a h2 h2, dotV_is a h5 h5]
    have := far_way c h3 h4 h6 h7
    unfold len at this
    generalize dts x y s t s t = e1 at *
    generalize dts x y p q p q = e2 at *
    generalize dts x y z u s t = e3 at *
    generalize dts x y z u p q = e4 at *
    clear h1 h2 h3 h4 h5 h6 h7 a b c
    unfold sgn cmpV
    split <;> split <;> (try split) <;> (try split) <;> omega
theorem order_back (x y z u s t p q : Int) : orderV z u x y s t p q = -orderV x y z u s t p q := by
  rw [← order_eq, ← order_eq]
  unfold orderR
  rw [on_back x y z u s t, on_back x y z u p q]
  cases h : onV x y z u s t && onV x y z u p q with
  | false => rw [if_neg (by decide), if_neg (by decide)]; rfl
  | true =>
    rw [if_pos rfl, if_pos rfl]
    rw [Bool.and_eq_true, onV_iff, onV_iff] at h
    obtain ⟨⟨h1, h2, h3, h4⟩, _, h5, h6, h7⟩ := h
    obtain ⟨a, b, c⟩ := line_iff.1 h1
    rw [dotV_is a b h2, dotV_is a b h5, dotV_is b a h2, dotV_is b a h5, dts_back x y z u s t, dts_back x y z u p q, ← sgn_flip]
    congr 1
    omega
theorem order_bd (x y z u s t p q : Int) : -1 ≤ orderV x y z u s t p q ∧ orderV x y z u s t p q ≤ 1 := by
  unfold orderV cmpV
  split <;> (try split) <;> (try split) <;> omega
/-- a point on a line: as an end of any line it touches it -/
theorem on_touch {x y z u s t p q : Int} (h : onV x y z u s t = true) (h' : lineP s t p q = true) : touchV x y z u s t p q = true := by
  rw [touchV_iff]
  obtain ⟨h1, _, h3⟩ := onV_iff.1 h
  exact ⟨h1, h', .inl h3⟩
theorem on_side {x y z u s t : Int} (h : onV x y z u s t = true) : sideV x y z u s t = 0 := by
  obtain ⟨h1, h2, h3, _⟩ := onV_iff.1 h
  obtain ⟨a, b, c⟩ := line_iff.1 h1
  unfold sideV
  rw [crossV_is a b h2, h3]
  rfl
section
variable (k : Nat)
theorem mayT {x y : Int} (h : mayP x y = true) : mayP (tx k x y) (ty k x y) = true := by
  obtain ⟨⟨a1, a2⟩, a3, a4⟩ := mayP_iff.1 h
  exact mayP_iff.2 (ty_bd a1 a2 a3 a4)
theorem tx_inj {x y z u : Int} (h : tx k x y = tx k z u ∧ ty k x y = ty k z u) : x = z ∧ y = u := by
  obtain ⟨h1, h2⟩ := h
  match k, h1, h2 with
  | 0, h1, h2 => exact ⟨h1, h2⟩
  | 1, h1, h2 => replace h1 : -y = -u := h1; replace h2 : x = z := h2; omega
  | 2, h1, h2 => replace h1 : -x = -z := h1; replace h2 : -y = -u := h2; omega
  | _ + 3, h1, h2 => replace h1 : y = u := h1; replace h2 : -x = -z := h2; omega
theorem lineT {x y z u : Int} (h : lineP x y z u = true) : lineP (tx k x y) (ty k x y) (tx k z u) (ty k z u) = true := by
  obtain ⟨a, b, c⟩ := line_iff.1 h
  exact line_iff.2 ⟨mayT k a, mayT k b, fun e => c (tx_inj k e)⟩
theorem onZT (x y z u s t : Int) : onZ (tx k x y) (ty k x y) (tx k z u) (ty k z u) (tx k s t) (ty k s t) ↔ onZ x y z u s t := by
  unfold onZ; rw [crs_turned, dts_turned]
theorem touchT {x y z u s t p q : Int} (h1 : lineP x y z u = true) (h2 : lineP s t p q = true) :
    touchV (tx k x y) (ty k x y) (tx k z u) (ty k z u) (tx k s t) (ty k s t) (tx k p q) (ty k p q) = touchV x y z u s t p q := by
  rw [Bool.eq_iff_iff, touchV_iff, touchV_iff, lineT k h1, lineT k h2, h1, h2]
  unfold touchZ
  rw [onZT, onZT, onZT, onZT, crs_turned, crs_turned, crs_turned, crs_turned]
theorem alongT {x y z u s t p q : Int} (h1 : lineP x y z u = true) (h2 : lineP s t p q = true) :
    alongV (tx k x y) (ty k x y) (tx k z u) (ty k z u) (tx k s t) (ty k s t) (tx k p q) (ty k p q) = alongV x y z u s t p q := by
  rw [Bool.eq_iff_iff, alongV_iff, alongV_iff, lineT k h1, lineT k h2, h1, h2, crs_turned, crs_turned]
theorem sideT {x y z u s t : Int} (h1 : mayP x y = true) (h2 : mayP z u = true) (h3 : mayP s t = true) :
    sideV (tx k x y) (ty k x y) (tx k z u) (ty k z u) (tx k s t) (ty k s t) = sideV x y z u s t := by
  unfold sideV
  rw [crossV_is (mayT k h1) (mayT k h2) (mayT k h3), crossV_is h1 h2 h3, crs_turned]
theorem onT {x y z u s t : Int} (h1 : lineP x y z u = true) (h3 : mayP s t = true) :
    onV (tx k x y) (ty k x y) (tx k z u) (ty k z u) (tx k s t) (ty k s t) = onV x y z u s t := by
  rw [Bool.eq_iff_iff, onV_iff, onV_iff, lineT k h1, mayT k h3, h1, h3, onZT]
theorem orderT {x y z u s t p q : Int} (h1 : lineP x y z u = true) (h2 : mayP s t = true) (h3 : mayP p q = true) :
    orderV (tx k x y) (ty k x y) (tx k z u) (ty k z u) (tx k s t) (ty k s t) (tx k p q) (ty k p q) = orderV x y z u s t p q := by
  obtain ⟨a, b, _⟩ := line_iff.1 h1
  unfold orderV
  rw [onT k h1 h2, onT k h1 h3, dotV_is (mayT k a) (mayT k h2) (mayT k h2), dotV_is (mayT k a) (mayT k h3) (mayT k h3), dotV_is a h2 h2, dotV_is a h3 h3, dts_turned, dts_turned]
end
end Go.Proofs.YtacicfmalhhceaaGreatDoor.OrW

/- The document's layer 8: contracts over the translation. -/
namespace Go.Proofs.YtacicfmalhhceaaGreatDoor.OrW
open Go.RowKit
open KM PtM OrM PtW
theorem or4 {p q r s : Bool} (h : (p || q || r || s) = true) : p = true ∨ (p = false ∧ q = true) ∨ (p = false ∧ q = false ∧ r = true) ∨ (p = false ∧ q = false ∧ r = false ∧ s = true) := by
  cases p <;> cases q <;> cases r <;> cases s <;> simp at h ⊢
end Go.Proofs.YtacicfmalhhceaaGreatDoor.OrW

