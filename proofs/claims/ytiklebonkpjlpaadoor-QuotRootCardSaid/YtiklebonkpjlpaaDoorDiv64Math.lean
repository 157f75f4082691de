/-
  The division of two words by one, by halves of words: plain mathematics, of no program.
-/
namespace DivM
/-- what is known of a divisor with its highest bit set, and of what is divided: u and t, in halves -/
structure Ok (y y1 y0 u t : Nat) : Prop where
  hy : y = y1 * 4294967296 + y0
  h0 : y0 < 4294967296
  h1 : 2147483648 ≤ y1
  h1' : y1 < 4294967296
  hu : u < y
  ht : t < 4294967296
/-- a guess of the quotient, and what is left by its upper half -/
def Guess (y y1 u t q r : Nat) : Prop := q * y1 + r = u ∧ (u * 4294967296 + t) / y ≤ q ∧ q ≤ 4294967297 ∧ r < 4294967296
theorem Ok.pos {y y1 y0 u t : Nat} (h : Ok y y1 y0 u t) : 0 < y := by have := h.hu; omega
theorem Ok.big {y y1 y0 u t : Nat} (h : Ok y y1 y0 u t) : (u * 4294967296 + t) / y < 4294967296 := by
  rw [Nat.div_lt_iff_lt_mul h.pos]
  have := Nat.mul_le_mul_right 4294967296 (show u + 1 ≤ y from h.hu)
  have := h.ht
  rw [Nat.mul_comm 4294967296 y]; omega
theorem Ok.mul {y y1 y0 u t : Nat} (h : Ok y y1 y0 u t) (q : Nat) : q * y = q * y1 * 4294967296 + q * y0 := by
  rw [h.hy, Nat.mul_add, Nat.mul_assoc]
theorem Ok.start {y y1 y0 u t : Nat} (h : Ok y y1 y0 u t) : Guess y y1 u t (u / y1) (u % y1) := by
  have hp : 0 < y1 := by have := h.h1; omega
  have hm := Nat.mod_lt u hp
  have hd := Nat.div_add_mod u y1
  refine ⟨by rw [Nat.mul_comm]; exact hd, ?_, ?_, by have := h.h1'; omega⟩
  · rw [Nat.le_div_iff_mul_le hp]
    have e := Nat.div_mul_le_self (u * 4294967296 + t) y
    rw [h.mul] at e
    have := h.ht
    omega
  · have : u / y1 < 4294967298 := by
      rw [Nat.div_lt_iff_lt_mul hp]
      have := h.hu; have := h.hy; have := h.h0; have := h.h1
      omega
    omega
theorem Guess.less {y y1 y0 u t q r : Nat} (h : Ok y y1 y0 u t) (g : Guess y y1 u t q r) (hT : 4294967296 ≤ q ∨ 4294967296 * r + t < q * y0) : (u * 4294967296 + t) / y < q := by
  rcases hT with hT | hT
  · exact Nat.lt_of_lt_of_le h.big hT
  · rw [Nat.div_lt_iff_lt_mul h.pos, h.mul q]
    have := g.1
    omega
theorem Guess.enough {y y1 y0 u t q r : Nat} (h : Ok y y1 y0 u t) (hq : q * y1 + r = u) (hT : q * y0 ≤ 4294967296 * r + t) : q ≤ (u * 4294967296 + t) / y := by
  rw [Nat.le_div_iff_mul_le h.pos, h.mul q]
  omega
theorem Guess.stop {y y1 y0 u t q r : Nat} (h : Ok y y1 y0 u t) (g : Guess y y1 u t q r) (hT : ¬ (4294967296 ≤ q ∨ 4294967296 * r + t < q * y0)) : q = (u * 4294967296 + t) / y := by
  have a := Guess.enough h g.1 (Nat.le_of_not_lt fun h => hT (Or.inr h))
  have b := g.2.1
  exact Nat.le_antisymm a b
theorem Guess.down {y y1 y0 u t q r : Nat} (h : Ok y y1 y0 u t) (g : Guess y y1 u t q r) (hT : 4294967296 ≤ q ∨ 4294967296 * r + t < q * y0) :
    1 ≤ q ∧ (q - 1) * y1 + (r + y1) = u ∧ q - 1 ≤ 4294967296 ∧ (u * 4294967296 + t) / y ≤ q - 1 := by
  have hl := Guess.less h g hT
  have e : (q - 1) * y1 + y1 = q * y1 := by
    have := Nat.sub_add_cancel (show 1 ≤ q from Nat.lt_of_le_of_lt (Nat.zero_le _) hl)
    conv => rhs; rw [← this, Nat.add_mul, Nat.one_mul]
  have a := g.1
  have b := g.2.2.1
  clear g
  generalize (u * 4294967296 + t) / y = z at *
  exact ⟨by omega, by omega, by omega, by omega⟩
theorem Guess.on {y y1 y0 u t q r : Nat} (h : Ok y y1 y0 u t) (g : Guess y y1 u t q r) (hT : 4294967296 ≤ q ∨ 4294967296 * r + t < q * y0) (hr : r + y1 < 4294967296) : Guess y y1 u t (q - 1) (r + y1) := by
  obtain ⟨a, b, c, d⟩ := Guess.down h g hT
  exact ⟨b, d, by omega, hr⟩
theorem Guess.leave {y y1 y0 u t q r : Nat} (h : Ok y y1 y0 u t) (g : Guess y y1 u t q r) (hT : 4294967296 ≤ q ∨ 4294967296 * r + t < q * y0) (hr : 4294967296 ≤ r + y1) : q - 1 = (u * 4294967296 + t) / y := by
  obtain ⟨a, b, c, d⟩ := Guess.down h g hT
  have e : (q - 1) * y0 ≤ 4294967296 * (r + y1) + t := by
    have h0 := h.h0
    have := Nat.mul_le_mul c (show y0 ≤ 4294967295 by omega)
    omega
  have f := Guess.enough h b e
  exact Nat.le_antisymm f d
/-- sums and products of the test stay within a word -/
theorem Guess.fits {y y1 y0 u t q r : Nat} (h : Ok y y1 y0 u t) (g : Guess y y1 u t q r) (hq : q < 4294967296) : q * y0 ≤ 18446744065119617025 ∧ 4294967296 * r + t ≤ 18446744073709551615 := by
  have h0 := h.h0
  have := Nat.mul_le_mul (show q ≤ 4294967295 by omega) (show y0 ≤ 4294967295 by omega)
  have := g.2.2.2
  have := h.ht
  omega
/-- both halves of the quotient -/
theorem halves (y u a b : Nat) (hp : 0 < y) (hb : b < 4294967296) :
    ((u * 4294967296 + a) / y) * 4294967296 + ((u * 4294967296 + a) % y * 4294967296 + b) / y = ((u * 4294967296 + a) * 4294967296 + b) / y ∧
    ((u * 4294967296 + a) % y * 4294967296 + b) % y = ((u * 4294967296 + a) * 4294967296 + b) % y := by
  have e : (u * 4294967296 + a) * 4294967296 + b = ((u * 4294967296 + a) % y * 4294967296 + b) + y * ((u * 4294967296 + a) / y * 4294967296) := by
    have := Nat.div_add_mod (u * 4294967296 + a) y
    generalize (u * 4294967296 + a) / y = q at *
    generalize (u * 4294967296 + a) % y = r at *
    rw [← this, Nat.add_mul, Nat.mul_assoc]; omega
  rw [e, Nat.add_mul_div_left _ _ hp, Nat.add_mul_mod_self_left]
  exact ⟨Nat.add_comm _ _, rfl⟩
/-- shifted so that the divisor's highest bit is set: K times L is 2^64 -/
theorem shifted' (M hi lo by' K L : Nat) (hK : 0 < K) (hL : 0 < L) (hKL : K * L = M) (hlt : hi < by') (hlo : lo < M) :
    (hi * K + lo / L) * M + lo * K % M = (hi * M + lo) * K ∧ hi * K + lo / L < by' * K ∧ lo / L < K ∧ hi * K ≤ by' * K := by
  have hlL : lo / L < K := by rw [Nat.div_lt_iff_lt_mul hL, hKL]; exact hlo
  have e := Nat.div_add_mod lo L
  have e2 : lo * K = lo / L * M + lo % L * K := by
    have : lo * K = (L * (lo / L) + lo % L) * K := by rw [e]
    rw [this, Nat.add_mul, ← hKL, Nat.mul_comm L, Nat.mul_assoc, Nat.mul_comm L K]
  have hm : lo % L * K < M := by
    rw [← hKL, Nat.mul_comm K L]
    exact Nat.mul_lt_mul_of_pos_right (Nat.mod_lt _ hL) hK
  have e3 : lo * K % M = lo % L * K := by rw [e2, Nat.add_comm, Nat.mul_comm (lo / L), Nat.add_mul_mod_self_left, Nat.mod_eq_of_lt hm]
  have m1 := Nat.mul_le_mul_right K (show hi + 1 ≤ by' from hlt)
  rw [Nat.add_mul, Nat.one_mul] at m1
  refine ⟨?_, by omega, hlL, by omega⟩
  rw [e3, Nat.add_mul (hi * M), e2, Nat.add_mul, Nat.mul_right_comm hi]
  omega
theorem shifted (hi lo by' K L : Nat) (hK : 0 < K) (hL : 0 < L) (hKL : K * L = 18446744073709551616) (hlt : hi < by') (hlo : lo < 18446744073709551616) :
    (hi * K + lo / L) * 18446744073709551616 + lo * K % 18446744073709551616 = (hi * 18446744073709551616 + lo) * K ∧ hi * K + lo / L < by' * K ∧ lo / L < K ∧ hi * K ≤ by' * K :=
  shifted' _ hi lo by' K L hK hL hKL hlt hlo
end DivM
