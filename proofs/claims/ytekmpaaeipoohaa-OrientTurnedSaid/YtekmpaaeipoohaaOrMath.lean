/-
  On which side points lie, and whether lines touch: plain arithmetic.
-/
import Derived.Test.YtekmpaaeipoohaaRows
import Derived.Test.YtekmpaaeipoohaaLow6
namespace OrM
open PtM
/-- a product by a positive number has the other's sign -/
theorem pos_mul {D x : Int} (h : 0 < D) : (0 < D * x ↔ 0 < x) ∧ (D * x < 0 ↔ x < 0) ∧ (D * x = 0 ↔ x = 0) := by
  have h1 : 0 < x → 0 < D * x := fun hx => Int.mul_pos h hx
  have h2 : x < 0 → D * x < 0 := fun hx => Int.mul_neg_of_pos_of_neg h hx
  have h3 : x = 0 → D * x = 0 := fun hx => by rw [hx, Int.mul_zero]
  generalize D * x = y at *
  omega
theorem sq_nonneg (x : Int) : 0 ≤ x * x := by
  rcases Int.le_total 0 x with h | h
  · exact Int.mul_nonneg h h
  · exact Int.mul_nonneg_of_nonpos_of_nonpos h h
theorem sq_pos {x : Int} (h : x ≠ 0) : 0 < x * x := by
  have h1 := sq_nonneg x
  have h2 : x * x ≠ 0 := fun h0 => h (by have := Int.mul_eq_zero.1 h0; omega)
  omega
/-- the sign of a product from those of both -/
theorem mul_sg (x y : Int) : (0 < x * y ↔ (0 < x ∧ 0 < y) ∨ (x < 0 ∧ y < 0)) ∧ (x * y < 0 ↔ (0 < x ∧ y < 0) ∨ (x < 0 ∧ 0 < y)) ∧ (x * y = 0 ↔ x = 0 ∨ y = 0) := by
  have h1 : 0 < x → 0 < y → 0 < x * y := fun h k => Int.mul_pos h k
  have h2 : 0 < x → y < 0 → x * y < 0 := fun h k => Int.mul_neg_of_pos_of_neg h k
  have h3 : x < 0 → 0 < y → x * y < 0 := fun h k => Int.mul_neg_of_neg_of_pos h k
  have h4 : x < 0 → y < 0 → 0 < x * y := fun h k => Int.mul_pos_of_neg_of_neg h k
  have h5 : x * y = 0 ↔ x = 0 ∨ y = 0 := Int.mul_eq_zero
  generalize x * y = r at *
  omega
/-- how long a line is, squared -/
def len (x y z u : Int) : Int := dts x y z u z u
theorem len_pos {x y z u : Int} (h : ¬(x = z ∧ y = u)) : 0 < len x y z u := by
  have h0 : len x y z u ≠ 0 := fun e => h ((dts_zero x y z u).1 e)
  have h1 : 0 ≤ len x y z u := by
    have := sq_nonneg (z - x); have := sq_nonneg (u - y)
    unfold len dts; omega
  omega
/-- a point on the straight line: each part goes along as far -/
theorem along {x y z u s t : Int} (h : crs x y z u s t = 0) : len x y z u * (s - x) = dts x y z u s t * (z - x) ∧ len x y z u * (t - y) = dts x y z u s t * (u - y) := by
  unfold crs at h; unfold len dts
  constructor <;> grind
theorem near {x y z u s t : Int} (h : crs x y z u s t = 0) : len x y z u * dts s t x y z u = dts x y z u s t * (dts x y z u s t - len x y z u) := by
  unfold crs at h; unfold len dts
  grind
/-- between the ends: told by either way of reckoning -/
theorem on_way {x y z u s t : Int} (hd : ¬(x = z ∧ y = u)) (h : crs x y z u s t = 0) : dts s t x y z u ≤ 0 ↔ 0 ≤ dts x y z u s t ∧ dts x y z u s t ≤ len x y z u := by
  have hD := len_pos hd
  have h1 := near h
  have h2 := @pos_mul _ (dts s t x y z u) hD
  have h3 := mul_sg (dts x y z u s t) (dts x y z u s t - len x y z u)
  rw [h1] at h2
  generalize dts x y z u s t * (dts x y z u s t - len x y z u) = r at *
  omega
/-- a point on the straight line of one, whose ends lie on both sides of the other one: it is on it -/
theorem on_of_cross {x y z u s t p q : Int} (hd : ¬(x = z ∧ y = u)) (h : crs x y z u s t = 0) (h' : crs x y z u p q ≠ 0) (hc : crs s t p q x y * crs s t p q z u ≤ 0) : dts s t x y z u ≤ 0 := by
  rw [on_way hd h]
  have hD := len_pos hd
  have e : len x y z u * len x y z u * (crs s t p q x y * crs s t p q z u) = (crs x y z u p q * crs x y z u p q) * (dts x y z u s t * (dts x y z u s t - len x y z u)) := by
    have h1 : len x y z u * crs s t p q x y = dts x y z u s t * crs x y z u p q := by
      obtain ⟨a, b⟩ := along h
      generalize len x y z u = D at *
      generalize dts x y z u s t = N at *
      unfold crs at *
      grind
    have h2 : len x y z u * crs s t p q z u = (dts x y z u s t - len x y z u) * crs x y z u p q := by
      obtain ⟨a, b⟩ := along h
      generalize len x y z u = D at *
      generalize dts x y z u s t = N at *
      unfold crs at *
      grind
    generalize crs s t p q x y = c at *
    generalize crs s t p q z u = d at *
    generalize crs x y z u p q = b at *
    generalize len x y z u = D at *
    generalize dts x y z u s t = N at *
    grind
  have h1 := @pos_mul _ (crs s t p q x y * crs s t p q z u) (Int.mul_pos hD hD)
  have h2 := @pos_mul _ (dts x y z u s t * (dts x y z u s t - len x y z u)) (sq_pos h')
  have h3 := mul_sg (dts x y z u s t) (dts x y z u s t - len x y z u)
  rw [e] at h1
  generalize crs x y z u p q * crs x y z u p q * (dts x y z u s t * (dts x y z u s t - len x y z u)) = r1 at *
  generalize dts x y z u s t * (dts x y z u s t - len x y z u) = r2 at *
  omega
/-- .. and the other way about -/
theorem cross_of_on {x y z u s t p q : Int} (hd : ¬(x = z ∧ y = u)) (h : crs x y z u s t = 0) (ho : dts s t x y z u ≤ 0) : crs s t p q x y * crs s t p q z u ≤ 0 := by
  rw [on_way hd h] at ho
  have hD := len_pos hd
  have h1 : len x y z u * crs s t p q x y = dts x y z u s t * crs x y z u p q := by
    obtain ⟨a, b⟩ := along h
    generalize len x y z u = D at *
    generalize dts x y z u s t = N at *
    unfold crs at *
    grind
  have h2 : len x y z u * crs s t p q z u = (dts x y z u s t - len x y z u) * crs x y z u p q := by
    obtain ⟨a, b⟩ := along h
    generalize len x y z u = D at *
    generalize dts x y z u s t = N at *
    unfold crs at *
    grind
  generalize crs s t p q x y = c at *
  generalize crs s t p q z u = d at *
  generalize crs x y z u p q = b at *
  generalize len x y z u = D at *
  generalize dts x y z u s t = N at *
  have k1 := @pos_mul D c hD
  have k2 := @pos_mul D d hD
  have k3 := mul_sg N b
  have k4 := mul_sg (N - D) b
  have k5 := mul_sg c d
  rw [h1] at k1
  rw [h2] at k2
  generalize N * b = r1 at *
  generalize (N - D) * b = r2 at *
  generalize c * d = r3 at *
  omega
theorem nn_mul {D x : Int} (h : 0 < D) (h' : 0 ≤ D * x) : 0 ≤ x := by
  have := (@pos_mul D x h).2.1
  omega
theorem box_one {D N x z s : Int} (hD : 0 < D) (h0 : 0 ≤ N) (h1 : N ≤ D) (e : D * (s - x) = N * (z - x)) : min x z ≤ s ∧ s ≤ max x z := by
  have e' : D * (z - s) = (D - N) * (z - x) := by grind
  have f : D * (x - s) = N * (x - z) := by grind
  have f' : D * (s - z) = (D - N) * (x - z) := by grind
  rcases Int.le_total x z with h | h
  · have k1 : 0 ≤ s - x := nn_mul hD (by rw [e]; exact Int.mul_nonneg h0 (by omega))
    have k2 : 0 ≤ z - s := nn_mul hD (by rw [e']; exact Int.mul_nonneg (by omega) (by omega))
    clear e e' f f'
    omega
  · have k1 : 0 ≤ x - s := nn_mul hD (by rw [f]; exact Int.mul_nonneg h0 (by omega))
    have k2 : 0 ≤ s - z := nn_mul hD (by rw [f']; exact Int.mul_nonneg (by omega) (by omega))
    clear e e' f f'
    omega
/-- a point on a line is within its box -/
theorem in_box {x y z u s t : Int} (hd : ¬(x = z ∧ y = u)) (h : crs x y z u s t = 0) (ho : dts s t x y z u ≤ 0) : (min x z ≤ s ∧ s ≤ max x z) ∧ (min y u ≤ t ∧ t ≤ max y u) := by
  rw [on_way hd h] at ho
  have hD := len_pos hd
  obtain ⟨a, b⟩ := along h
  exact ⟨box_one hD ho.1 ho.2 a, box_one hD ho.1 ho.2 b⟩
/-- ahead of the line's begin -/
theorem out_low {D N x z s : Int} (hD : 0 < D) (h0 : N < 0) (e : D * (s - x) = N * (z - x)) : (x < z → s < x) ∧ (z < x → x < s) := by
  constructor
  · intro h
    have := (@pos_mul D (s - x) hD).2.1.1 (by rw [e]; exact Int.mul_neg_of_neg_of_pos h0 (by omega))
    omega
  · intro h
    have := (@pos_mul D (s - x) hD).1.1 (by rw [e]; exact Int.mul_pos_of_neg_of_neg h0 (by omega))
    omega
/-- behind the line's end -/
theorem out_high {D N x z s : Int} (hD : 0 < D) (h0 : D < N) (e : D * (s - x) = N * (z - x)) : (x < z → z < s) ∧ (z < x → s < z) := by
  have e' : D * (s - z) = (N - D) * (z - x) := by grind
  constructor
  · intro h
    have := (@pos_mul D (s - z) hD).1.1 (by rw [e']; exact Int.mul_pos (by omega) (by omega))
    omega
  · intro h
    have := (@pos_mul D (s - z) hD).2.1.1 (by rw [e']; exact Int.mul_neg_of_pos_of_neg (by omega) (by omega))
    omega
/-- are boxes apart? -/
def apt (x y z u s t p q : Int) : Prop := max x z < min s p ∨ max s p < min x z ∨ max y u < min t q ∨ max t q < min y u
/-- all ends on one straight line, and boxes that are not apart: an end of one is on the other one -/
theorem on_flat {x y z u s t p q : Int} (hd : ¬(x = z ∧ y = u)) (h1 : crs x y z u s t = 0) (h2 : crs x y z u p q = 0) (hb : ¬apt x y z u s t p q) : dts s t x y z u ≤ 0 ∨ dts p q x y z u ≤ 0 ∨ dts x y s t p q ≤ 0 := by
  have hD := len_pos hd
  have w1 := on_way hd h1
  have w2 := on_way hd h2
  have e : len x y z u * dts x y s t p q = dts x y z u s t * dts x y z u p q := by
    unfold crs at h1 h2; unfold len dts
    grind
  have k := @pos_mul _ (dts x y s t p q) hD
  rw [e] at k
  have m := mul_sg (dts x y z u s t) (dts x y z u p q)
  obtain ⟨a1, b1⟩ := along h1
  obtain ⟨a2, b2⟩ := along h2
  generalize dts s t x y z u = o1 at *
  generalize dts p q x y z u = o2 at *
  generalize dts x y s t p q = o3 at *
  generalize len x y z u = D at *
  generalize dts x y z u s t = N at *
  generalize dts x y z u p q = K at *
  clear e h1 h2
  generalize N * K = r at *
  unfold apt at hb
  have hd' : x < z ∨ z < x ∨ y < u ∨ u < y := by omega
  by_cases g : N < 0 ∧ K < 0
  · exfalso
    have k1 := out_low hD g.1 a1
    have k2 := out_low hD g.2 a2
    have k3 := out_low hD g.1 b1
    have k4 := out_low hD g.2 b2
    clear a1 a2 b1 b2 w1 w2 k m g hd hD
    rcases hd' with h | h | h | h
    · have := k1.1 h; have := k2.1 h; clear k1 k2 k3 k4; exact hb (by omega)
    · have := k1.2 h; have := k2.2 h; clear k1 k2 k3 k4; exact hb (by omega)
    · have := k3.1 h; have := k4.1 h; clear k1 k2 k3 k4; exact hb (by omega)
    · have := k3.2 h; have := k4.2 h; clear k1 k2 k3 k4; exact hb (by omega)
  · by_cases g' : D < N ∧ D < K
    · exfalso
      have k1 := out_high hD g'.1 a1
      have k2 := out_high hD g'.2 a2
      have k3 := out_high hD g'.1 b1
      have k4 := out_high hD g'.2 b2
      clear a1 a2 b1 b2 w1 w2 k m g g' hd hD
      rcases hd' with h | h | h | h
      · have := k1.1 h; have := k2.1 h; clear k1 k2 k3 k4; exact hb (by omega)
      · have := k1.2 h; have := k2.2 h; clear k1 k2 k3 k4; exact hb (by omega)
      · have := k3.1 h; have := k4.1 h; clear k1 k2 k3 k4; exact hb (by omega)
      · have := k3.2 h; have := k4.2 h; clear k1 k2 k3 k4; exact hb (by omega)
    · clear a1 a2 b1 b2 hb hd hd'
      by_cases n1 : 0 ≤ N ∧ N ≤ D
      · exact .inl (w1.2 n1)
      · by_cases n2 : 0 ≤ K ∧ K ≤ D
        · exact .inr (.inl (w2.2 n2))
        · refine .inr (.inr ?_)
          have : (N < 0 ∧ 0 < K) ∨ (0 < N ∧ K < 0) := by omega
          have hr : r < 0 := m.2.1.2 (by omega)
          have := k.2.1.1 hr
          omega
/-- lines that cross have boxes that are not apart: one side of it -/
theorem cross_box {a b c d m n m' n' : Int} (h : a + c = b + d) (e : c * n - d * m + a * n' - b * m' = 0) (hab : (0 < a ∧ b < 0) ∨ (a < 0 ∧ 0 < b)) (hcd : (0 < c ∧ d < 0) ∨ (c < 0 ∧ 0 < d)) : ¬(max m n < min m' n') := by
  intro hl
  obtain ⟨M, h1, h2, h3, h4⟩ : ∃ M, m ≤ M ∧ n ≤ M ∧ M < m' ∧ M < n' := ⟨max m n, by omega, by omega, by omega, by omega⟩
  have e' : c * (n - M) - d * (m - M) + a * (n' - M) - b * (m' - M) = 0 := by grind
  clear e
  rcases hab with ⟨ha, hb⟩ | ⟨ha, hb⟩ <;> rcases hcd with ⟨hc, hd⟩ | ⟨hc, hd⟩
  · omega
  · have k1 : 0 ≤ c * (n - M) := Int.mul_nonneg_of_nonpos_of_nonpos (by omega) (by omega)
    have k2 : d * (m - M) ≤ 0 := Int.mul_nonpos_of_nonneg_of_nonpos (by omega) (by omega)
    have k3 : 0 < a * (n' - M) := Int.mul_pos ha (by omega)
    have k4 : b * (m' - M) < 0 := Int.mul_neg_of_neg_of_pos hb (by omega)
    omega
  · have k1 : c * (n - M) ≤ 0 := Int.mul_nonpos_of_nonneg_of_nonpos (by omega) (by omega)
    have k2 : 0 ≤ d * (m - M) := Int.mul_nonneg_of_nonpos_of_nonpos (by omega) (by omega)
    have k3 : a * (n' - M) < 0 := Int.mul_neg_of_neg_of_pos ha (by omega)
    have k4 : 0 < b * (m' - M) := Int.mul_pos hb (by omega)
    omega
  · omega
theorem crs_four (x y z u s t p q : Int) : crs x y z u s t + crs s t p q x y = crs x y z u p q + crs s t p q z u := by unfold crs; grind
/-- lines that cross have boxes that are not apart -/
theorem not_apt {x y z u s t p q : Int} (hab : crs x y z u s t * crs x y z u p q < 0) (hcd : crs s t p q x y * crs s t p q z u < 0) : ¬apt x y z u s t p q := by
  rw [(mul_sg _ _).2.1] at hab hcd
  have h := crs_four x y z u s t p q
  have ex : crs s t p q x y * z - crs s t p q z u * x + crs x y z u s t * p - crs x y z u p q * s = 0 := by unfold crs; grind
  have ey : crs s t p q x y * u - crs s t p q z u * y + crs x y z u s t * q - crs x y z u p q * t = 0 := by unfold crs; grind
  have g1 := cross_box h ex hab hcd
  have g2 := cross_box h ey hab hcd
  have g3 := @cross_box (crs s t p q x y) (crs s t p q z u) (crs x y z u s t) (crs x y z u p q) s p x z (by omega) (by omega) hcd hab
  have g4 := @cross_box (crs s t p q x y) (crs s t p q z u) (crs x y z u s t) (crs x y z u p q) t q y u (by omega) (by omega) hcd hab
  unfold apt
  omega
/-- is a point on a line (both may be)? -/
def onZ (x y z u s t : Int) : Prop := crs x y z u s t = 0 ∧ dts s t x y z u ≤ 0
theorem apt_box {x y z u s t p q : Int} (h : (min x z ≤ s ∧ s ≤ max x z) ∧ (min y u ≤ t ∧ t ≤ max y u)) : ¬apt x y z u s t p q := by unfold apt; omega
theorem apt_box' {x y z u s t p q : Int} (h : (min x z ≤ p ∧ p ≤ max x z) ∧ (min y u ≤ q ∧ q ≤ max y u)) : ¬apt x y z u s t p q := by unfold apt; omega
theorem apt_swap {x y z u s t p q : Int} (h : ¬apt s t p q x y z u) : ¬apt x y z u s t p q := by unfold apt at *; omega
theorem dts_comm (x y z u s t : Int) : dts x y s t z u = dts x y z u s t := by unfold dts; grind
theorem crs_flip (x y z u s t : Int) : crs x y s t z u = -crs x y z u s t := by unfold crs; grind
theorem mul_zero_le {a b : Int} (h : a = 0) : a * b ≤ 0 := by rw [h, Int.zero_mul]; exact Int.le_refl 0
/-- touching, told by sides and boxes, is touching told by ends on lines, and ends on both sides -/
theorem touch_way {x y z u s t p q : Int} (hd : ¬(x = z ∧ y = u)) (hd' : ¬(s = p ∧ t = q)) :
    (¬apt x y z u s t p q ∧ crs x y z u s t * crs x y z u p q ≤ 0 ∧ crs s t p q x y * crs s t p q z u ≤ 0) ↔
    (onZ x y z u s t ∨ onZ x y z u p q ∨ onZ s t p q x y ∨ onZ s t p q z u ∨ (crs x y z u s t * crs x y z u p q < 0 ∧ crs s t p q x y * crs s t p q z u < 0)) := by
  have hswap : ¬(p = s ∧ q = t) := by omega
  have hswap' : ¬(z = x ∧ u = y) := by omega
  constructor
  · rintro ⟨hb, h1, h2⟩
    have four := crs_four x y z u s t p q
    by_cases a : crs x y z u s t = 0
    · by_cases b : crs x y z u p q = 0
      · have := on_flat hd a b hb
        rcases this with h | h | h
        · exact .inl ⟨a, h⟩
        · exact .inr (.inl ⟨b, h⟩)
        · refine .inr (.inr (.inl ⟨?_, h⟩))
          have hD := len_pos hd
          have e : len x y z u * crs s t p q x y = 0 := by
            unfold crs at a b ⊢; unfold len dts
            grind
          exact ((@pos_mul _ (crs s t p q x y) hD).2.2).1 e
      · exact .inl ⟨a, on_of_cross hd a b h2⟩
    · by_cases b : crs x y z u p q = 0
      · refine .inr (.inl ⟨b, on_of_cross (p := s) (q := t) hd b a ?_⟩)
        have e1 : crs p q s t x y = -crs s t p q x y := crs_swap ..
        have e2 : crs p q s t z u = -crs s t p q z u := crs_swap ..
        rw [e1, e2, Int.neg_mul_neg]; exact h2
      · by_cases c : crs s t p q x y = 0
        · by_cases d : crs s t p q z u = 0
          · exfalso
            have hab : crs x y z u s t = crs x y z u p q := by omega
            rw [hab] at h1
            have := sq_pos b
            omega
          · exact .inr (.inr (.inl ⟨c, on_of_cross (p := z) (q := u) hd' c d h1⟩))
        · by_cases d : crs s t p q z u = 0
          · refine .inr (.inr (.inr (.inl ⟨d, on_of_cross (p := x) (q := y) hd' d c ?_⟩)))
            have e1 : crs z u x y s t = -crs x y z u s t := crs_swap ..
            have e2 : crs z u x y p q = -crs x y z u p q := crs_swap ..
            rw [e1, e2, Int.neg_mul_neg]; exact h1
          · refine .inr (.inr (.inr (.inr ?_)))
            have m1 := (mul_sg (crs x y z u s t) (crs x y z u p q)).2.2
            have m2 := (mul_sg (crs s t p q x y) (crs s t p q z u)).2.2
            omega
  · rintro (⟨h, ho⟩ | ⟨h, ho⟩ | ⟨h, ho⟩ | ⟨h, ho⟩ | ⟨h1, h2⟩)
    · exact ⟨apt_box (in_box hd h ho), mul_zero_le h, cross_of_on hd h ho⟩
    · refine ⟨apt_box' (in_box hd h ho), by rw [Int.mul_comm]; exact mul_zero_le h, ?_⟩
      have := @cross_of_on x y z u p q s t hd h ho
      rw [crs_swap s t p q x y, crs_swap s t p q z u, Int.neg_mul_neg] at this
      exact this
    · exact ⟨apt_swap (apt_box (in_box hd' h ho)), cross_of_on hd' h ho, mul_zero_le h⟩
    · refine ⟨apt_swap (apt_box' (in_box hd' h ho)), ?_, by rw [Int.mul_comm]; exact mul_zero_le h⟩
      have := @cross_of_on s t p q z u x y hd' h ho
      rw [crs_swap x y z u s t, crs_swap x y z u p q, Int.neg_mul_neg] at this
      exact this
    · exact ⟨not_apt h1 h2, by omega, by omega⟩
/-- of points on a line that goes farther which goes farther along -/
theorem far_way {x y z u s t p q : Int} (hd : ¬(x = z ∧ y = u)) (h : crs x y z u s t = 0) (ho : dts s t x y z u ≤ 0) (h' : crs x y z u p q = 0) (ho' : dts p q x y z u ≤ 0) :
    (len x y s t < len x y p q ↔ dts x y z u s t < dts x y z u p q) ∧ (len x y p q < len x y s t ↔ dts x y z u p q < dts x y z u s t) := by
  rw [on_way hd h] at ho
  rw [on_way hd h'] at ho'
  have hD := len_pos hd
  have e1 : len x y z u * len x y s t = dts x y z u s t * dts x y z u s t := by
    unfold crs at h; unfold len dts; grind
  have e2 : len x y z u * len x y p q = dts x y z u p q * dts x y z u p q := by
    unfold crs at h'; unfold len dts; grind
  have e : len x y z u * (len x y p q - len x y s t) = (dts x y z u p q - dts x y z u s t) * (dts x y z u p q + dts x y z u s t) := by
    rw [Int.mul_sub, e1, e2]; grind
  have k := @pos_mul _ (len x y p q - len x y s t) hD
  rw [e] at k
  have m := mul_sg (dts x y z u p q - dts x y z u s t) (dts x y z u p q + dts x y z u s t)
  generalize (dts x y z u p q - dts x y z u s t) * (dts x y z u p q + dts x y z u s t) = r at *
  omega
/-- seen from the other end -/
theorem dts_back (x y z u s t : Int) : dts z u x y s t = len x y z u - dts x y z u s t := by unfold len dts; grind
theorem len_back (x y z u : Int) : len z u x y = len x y z u := by unfold len dts; grind
end OrM
