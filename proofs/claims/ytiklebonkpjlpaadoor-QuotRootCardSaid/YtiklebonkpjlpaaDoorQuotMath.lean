/-
  Quotients, square roots, divisors of numbers of words: plain mathematics, of no program.
-/
import Derived.Test.YtiklebonkpjlpaaDoorWideMath
namespace QuotM
open DigM WideM
theorem put_high {n k x : Nat} (hx : x < B) : put n k x / B ^ (k + 1) = n / B ^ (k + 1) := by
  have hm := Nat.mod_lt n (Bp_pos k)
  unfold put
  rw [Nat.pow_succ, ← Nat.div_div_eq_div_mul, Nat.add_mul_div_left _ _ (Bp_pos k), Nat.div_eq_of_lt hm, Nat.zero_add, Nat.add_mul_div_left _ _ B_pos, Nat.div_eq_of_lt hx, Nat.zero_add]
theorem wd_mul_high (s m : Nat) : wd (s * B ^ (m + 1)) m = 0 := by
  unfold wd
  rw [Nat.pow_succ, show s * (B ^ m * B) = B ^ m * (s * B) by rw [Nat.mul_left_comm], Nat.mul_div_cancel_left _ (Bp_pos m), Nat.mul_mod_left]
theorem put_mul (s m q : Nat) : put (s * B ^ (m + 1)) m q = (s * B + q) * B ^ m := by
  have := put_eq (s * B ^ (m + 1)) m q
  rw [wd_mul_high, Nat.mul_zero, Nat.add_zero] at this
  rw [this, Nat.pow_succ, Nat.add_mul, Nat.mul_assoc, Nat.mul_comm B (B ^ m), Nat.mul_comm q]
/-! ### by a word -/
def WordQ (a y m s r : Nat) : Prop := r = a / B ^ m % y ∧ s = a / B ^ m / y * B ^ m
theorem WordQ.start {a y : Nat} (ha : a < M) : WordQ a y 8 0 0 := by
  have : a / B ^ 8 = 0 := Nat.div_eq_of_lt ha
  simp [WordQ, this]
theorem WordQ.lt {a y m s r : Nat} (h : WordQ a y m s r) (hy : 0 < y) : r < y := by rw [h.1]; exact Nat.mod_lt _ hy
theorem WordQ.next {a y m s r q o : Nat} (h : WordQ a y (m + 1) s r) (hy : 0 < y) (ho : o < y) (he : q * y + o = r * B + wd a m) : WordQ a y m (put s m q) o := by
  obtain ⟨rfl, rfl⟩ := h
  have e : a / B ^ m = a / B ^ (m + 1) * B + wd a m := by
    unfold wd
    have := Nat.mod_add_div (a / B ^ m) B
    rw [Nat.pow_succ, ← Nat.div_div_eq_div_mul, Nat.mul_comm]; omega
  have d := Nat.div_add_mod (a / B ^ (m + 1)) y
  generalize a / B ^ (m + 1) = A at *
  have e2 : a / B ^ m = o + y * (A / y * B + q) := by
    have : A * B = y * (A / y) * B + A % y * B := by rw [← Nat.add_mul, d]
    rw [e, Nat.mul_add, ← Nat.mul_assoc, Nat.mul_comm y q]; omega
  refine ⟨by rw [e2, Nat.add_mul_mod_self_left, Nat.mod_eq_of_lt ho], ?_⟩
  rw [e2, Nat.add_mul_div_left _ _ hy, Nat.div_eq_of_lt ho, Nat.zero_add, put_mul]
theorem WordQ.over {a y s r : Nat} (h : WordQ a y 0 s r) : s = a / y ∧ r = a % y := by
  obtain ⟨h1, h2⟩ := h
  simp at h1 h2
  exact ⟨h2, h1⟩
/-! ### a guess, told by the highest words -/
def GuessOf (u0 u1 u2 v1 v2 g : Nat) : Prop :=
  ∃ qh p, qh < B ∧ qh * v1 + p = u0 * B + u1 ∧ (p < v1 ∨ qh + 1 = B) ∧ ((qh * v2 ≤ p * B + u2 ∧ g = qh) ∨ (p * B + u2 < qh * v2 ∧ g + 1 = qh))
theorem lt_of_mul_lt {a b c : Nat} (h : a * c < b * c) : a < b := Nat.lt_of_mul_lt_mul_right h
theorem guess_near {P u0 u1 u2 u' v1 v2 v' g : Nat} (h : GuessOf u0 u1 u2 v1 v2 g) (hu' : u' < P) (hv' : v' < P) (hu1 : u1 < B) (hu2 : u2 < B) (hv2 : v2 < B) (hn : B ≤ 2 * v1)
    (hlt : (u0 * B * B + u1 * B + u2) * P + u' < ((v1 * B + v2) * P + v') * B) :
    ((u0 * B * B + u1 * B + u2) * P + u') / ((v1 * B + v2) * P + v') ≤ g ∧ g ≤ ((u0 * B * B + u1 * B + u2) * P + u') / ((v1 * B + v2) * P + v') + 1 ∧ g < B := by
  obtain ⟨qh, p, hq, he, hp, hg⟩ := h
  have hB := B_pos
  have hv1 : 0 < v1 := by omega
  have hP : 0 < P := by omega
  -- the names of the numbers
  obtain ⟨U, hU⟩ : ∃ U, U = (u0 * B * B + u1 * B + u2) * P + u' := ⟨_, rfl⟩
  obtain ⟨V, hV⟩ : ∃ V, V = (v1 * B + v2) * P + v' := ⟨_, rfl⟩
  obtain ⟨U3, hU3⟩ : ∃ U3, U3 = u0 * B * B + u1 * B + u2 := ⟨_, rfl⟩
  obtain ⟨V2, hV2⟩ : ∃ V2, V2 = v1 * B + v2 := ⟨_, rfl⟩
  obtain ⟨U2, hU2⟩ : ∃ U2, U2 = u0 * B + u1 := ⟨_, rfl⟩
  have hU32 : U3 = U2 * B + u2 := by rw [hU3, hU2, Nat.add_mul]
  rw [← hU, ← hV] at hlt
  rw [← hU, ← hV]
  rw [← hU3] at hU
  rw [← hV2] at hV
  rw [← hU2] at he
  have hV2B : B ≤ V2 := by
    have := Nat.mul_le_mul_right B (show 1 ≤ v1 from hv1)
    rw [Nat.one_mul] at this; omega
  have hVpos : 0 < V := by
    have := Nat.mul_pos (show 0 < V2 by omega) hP; omega
  obtain ⟨q, hqd⟩ : ∃ q, q = U / V := ⟨_, rfl⟩
  rw [← hqd]
  have q1 : q * V ≤ U := by rw [hqd]; exact Nat.div_mul_le_self U V
  have q2 : U < (q + 1) * V := by rw [hqd, Nat.mul_comm]; exact Nat.lt_mul_div_succ U hVpos
  have qB : q < B := by rw [hqd]; exact Nat.div_lt_of_lt_mul (by rw [Nat.mul_comm] at hlt; rw [Nat.mul_comm]; first | exact hlt | (rw [Nat.mul_comm]; exact hlt))
  clear hqd
  -- what the numbers are at least and at most
  have V_ge : V2 * P ≤ V := by omega
  have V_lt : V < (V2 + 1) * P := by rw [Nat.add_mul, Nat.one_mul]; omega
  have U_ge : U3 * P ≤ U := by omega
  have U_lt : U < (U3 + 1) * P := by rw [Nat.add_mul, Nat.one_mul]; omega
  -- q times the highest two words is not more than the highest three
  have a1 : q * V2 ≤ U3 := by
    have h1 := Nat.mul_le_mul_left q V_ge
    rw [← Nat.mul_assoc] at h1
    have : q * V2 * P < (U3 + 1) * P := by omega
    have := lt_of_mul_lt this
    omega
  have a2 : U3 < (q + 2) * V2 := by
    apply Nat.lt_of_not_le; intro hc
    have h1 := Nat.mul_le_mul_right P hc
    have h2 := Nat.mul_lt_mul_of_lt_of_le (show q < q + 1 by omega) (Nat.le_refl V) hVpos
    have h3 : (q + 1) * V ≤ (q + 1) * ((V2 + 1) * P) := Nat.mul_le_mul_left _ (Nat.le_of_lt V_lt)
    rw [← Nat.mul_assoc] at h3
    have h4 := lt_of_mul_lt (show (q + 2) * V2 * P < (q + 1) * (V2 + 1) * P by omega)
    have e1 : (q + 2) * V2 = q * V2 + 2 * V2 := Nat.add_mul _ _ _
    have e2 : (q + 1) * (V2 + 1) = q * V2 + V2 + (q + 1) := by rw [Nat.mul_add, Nat.add_mul]; omega
    omega
  -- q is qh at most
  have a3 : q ≤ qh := by
    rcases hp with hp | hp
    · apply Nat.le_of_not_lt; intro hc
      have h1 : q * (v1 * B) ≤ q * V2 := Nat.mul_le_mul_left _ (by omega)
      rw [← Nat.mul_assoc] at h1
      have h2 := Nat.mul_le_mul_right v1 (show qh + 1 ≤ q from hc)
      rw [Nat.add_mul, Nat.one_mul] at h2
      have h3 := Nat.mul_le_mul_right B (show U2 + 1 ≤ q * v1 by omega)
      rw [Nat.add_mul, Nat.one_mul] at h3
      omega
    · omega
  have a4 : qh ≤ q + 2 := by
    apply Nat.le_of_not_lt; intro hc
    have h1 := Nat.mul_le_mul_right v1 (show q + 3 ≤ qh from hc)
    have h2 : qh * v1 ≤ U2 := by omega
    -- qh v1 B P <= U < (q+1) (v1+1) B P
    have h3 := Nat.mul_le_mul_right P (show U2 * B ≤ U3 by omega)
    have h4 : V ≤ (v1 + 1) * B * P := by
      have : V2 + 1 ≤ (v1 + 1) * B := by rw [Nat.add_mul, Nat.one_mul]; omega
      have := Nat.mul_le_mul_right P this
      omega
    have h5 := Nat.mul_le_mul_left (q + 1) h4
    have h6 : U2 * B * P < (q + 1) * (v1 + 1) * B * P := by
      have e : (q + 1) * (v1 + 1) * B * P = (q + 1) * ((v1 + 1) * B * P) := by simp only [Nat.mul_assoc]
      rw [e]; omega
    have h7 := lt_of_mul_lt (lt_of_mul_lt h6)
    have e1 : (q + 3) * v1 = q * v1 + 3 * v1 := Nat.add_mul _ _ _
    have e2 : (q + 1) * (v1 + 1) = q * v1 + v1 + (q + 1) := by rw [Nat.mul_add, Nat.add_mul]; omega
    omega
  -- the test tells whether qh times the highest two words is more than the highest three
  have e : qh * V2 + p * B + u2 = U3 + qh * v2 := by
    rw [hU32, hV2, Nat.mul_add, ← Nat.mul_assoc, ← he, Nat.add_mul]; omega
  rcases hg with ⟨ht, rfl⟩ | ⟨ht, hg⟩
  · refine ⟨a3, ?_, hq⟩
    apply Nat.le_of_not_lt; intro hc
    have := Nat.mul_le_mul_right V2 (show q + 2 ≤ g from hc)
    omega
  · refine ⟨?_, by omega, by omega⟩
    apply Nat.le_of_not_lt; intro hc
    have := Nat.mul_le_mul_right V2 (show qh ≤ q by omega)
    omega
/-! ### a product taken away, word by word -/
def LessW (t0 v q i j t c w : Nat) : Prop := w ≤ 1 ∧ c < B ∧ t + B ^ i * (q * (v % B ^ j)) = t0 + B ^ (i + j) * (c + w) ∧ t / B ^ (i + j) = t0 / B ^ (i + j)
theorem LessW.start (t0 v q i : Nat) : LessW t0 v q i 0 t0 0 0 := ⟨by decide, B_pos, by simp [Nat.mod_one], rfl⟩
theorem LessW.next {t0 v q i j t c w hi lo l2 o z w' : Nat} (h : LessW t0 v q i j t c w) (hq : q < B) (hm : hi * B + lo = q * wd v j) (ha : l2 + B * o = lo + c) (hz : z < B) (hw : w' ≤ 1)
    (hs : z + l2 + w = wd t (i + j) + B * w') : LessW t0 v q i (j + 1) (put t (i + j) z) (hi + o) w' := by
  obtain ⟨h1, h2, h3, h4⟩ := h
  refine ⟨hw, ?_, ?_, ?_⟩
  · have hv := wd_lt v j
    have h5 := Nat.mul_le_mul (show q ≤ B - 1 by omega) (show wd v j ≤ B - 1 by omega)
    have hB := B_pos
    have h6 : (hi + o) * B ≤ (B - 1) * B := by
      have e1 : (hi + o) * B = hi * B + B * o := by rw [Nat.add_mul, Nat.mul_comm o]
      have e2 : (B - 1) * B = (B - 1) * (B - 1) + (B - 1) := by rw [← Nat.mul_succ]; congr 1; omega
      omega
    have := Nat.le_of_mul_le_mul_right h6 hB
    omega
  · have hp := put_eq t (i + j) z
    have e1 : B ^ (i + (j + 1)) = B ^ (i + j) * B := by rw [← Nat.add_assoc, Nat.pow_succ]
    have e2 : B ^ i * (q * (v % B ^ (j + 1))) = B ^ i * (q * (v % B ^ j)) + B ^ (i + j) * (q * wd v j) := by
      rw [mod_step, Nat.mul_add, Nat.mul_add, Nat.pow_add]
      simp only [Nat.mul_assoc, Nat.mul_left_comm]
    rw [e1, e2, Nat.mul_assoc]
    have s1 := congrArg (B ^ (i + j) * ·) hm
    have s2 := congrArg (B ^ (i + j) * ·) ha
    have s3 := congrArg (B ^ (i + j) * ·) hs
    simp only [Nat.mul_add] at s1 s2 s3 h3 ⊢
    rw [Nat.mul_comm hi B] at s1
    omega
  · rw [← Nat.add_assoc, put_high hz, Nat.pow_succ, ← Nat.div_div_eq_div_mul, h4, Nat.div_div_eq_div_mul]
def RaiseW (t0 v i j t c : Nat) : Prop := c ≤ 1 ∧ t + B ^ (i + j) * c = t0 + B ^ i * (v % B ^ j) ∧ t / B ^ (i + j) = t0 / B ^ (i + j)
theorem RaiseW.start (t0 v i : Nat) : RaiseW t0 v i 0 t0 0 := ⟨by decide, by simp [Nat.mod_one], rfl⟩
theorem RaiseW.next {t0 v i j t c z c' : Nat} (h : RaiseW t0 v i j t c) (hz : z < B) (hc : c' ≤ 1) (hs : z + B * c' = wd t (i + j) + wd v j + c) : RaiseW t0 v i (j + 1) (put t (i + j) z) c' := by
  obtain ⟨h1, h3, h4⟩ := h
  refine ⟨hc, ?_, ?_⟩
  · have hp := put_eq t (i + j) z
    have e1 : B ^ (i + (j + 1)) = B ^ (i + j) * B := by rw [← Nat.add_assoc, Nat.pow_succ]
    have e2 : B ^ i * (v % B ^ (j + 1)) = B ^ i * (v % B ^ j) + B ^ (i + j) * wd v j := by
      rw [mod_step, Nat.mul_add, Nat.pow_add, Nat.mul_assoc]
    rw [e1, e2, Nat.mul_assoc]
    have s3 := congrArg (B ^ (i + j) * ·) hs
    simp only [Nat.mul_add] at s3 h3 ⊢
    omega
  · rw [← Nat.add_assoc, put_high hz, Nat.pow_succ, ← Nat.div_div_eq_div_mul, h4, Nat.div_div_eq_div_mul]
/-! ### by many words -/
/-- A is to be divided by V, of n words: s is the quotient's part above word m; t's words below m + n are left -/
def ManyW (A V n m s t : Nat) : Prop := (∃ k, s = k * B ^ m) ∧ A = s * V + t % B ^ (m + n) ∧ t % B ^ (m + n) < V * B ^ m ∧ t < B ^ 9
theorem ManyW.start {A V n m : Nat} (hA : A < V * B ^ m) (h9 : A < B ^ 9) (hm : m + n = 9) : ManyW A V n m 0 A := by
  refine ⟨⟨0, by simp⟩, ?_, ?_, h9⟩ <;> rw [hm, Nat.mod_eq_of_lt h9]
  · simp
  · exact hA
theorem ManyW.over {A V n s t : Nat} (h : ManyW A V n 0 s t) : s = A / V ∧ t % B ^ n = A % V := by
  obtain ⟨_, h1, h2, _⟩ := h
  rw [Nat.zero_add] at h1 h2
  rw [Nat.pow_zero, Nat.mul_one] at h2
  have hV : 0 < V := Nat.lt_of_le_of_lt (Nat.zero_le _) h2
  rw [h1, Nat.add_comm, Nat.add_mul_div_right _ _ hV, Nat.add_mul_mod_self_right, Nat.div_eq_of_lt h2, Nat.mod_eq_of_lt h2, Nat.zero_add]
  exact ⟨rfl, rfl⟩
/-- the highest three words of what is left -/
theorem top3 (t k : Nat) : t % B ^ (k + 3) = (wd t (k + 2) * B * B + wd t (k + 1) * B + wd t k) * B ^ k + t % B ^ k := by
  rw [mod_step t (k + 2), mod_step t (k + 1), mod_step t k]
  have e1 : B ^ (k + 1) = B ^ k * B := Nat.pow_succ ..
  have e2 : B ^ (k + 2) = B ^ k * B * B := by rw [Nat.pow_succ, Nat.pow_succ]
  rw [e1, e2]
  simp only [Nat.add_mul, Nat.mul_assoc, Nat.mul_comm (B ^ k)]
  rw [Nat.mul_comm (wd t k) (B ^ k), Nat.mul_comm (wd t (k + 1)) (B * B ^ k), Nat.mul_comm (wd t (k + 2)) (B * (B * B ^ k))]
  simp only [Nat.mul_assoc, Nat.mul_comm, Nat.mul_left_comm]
  omega
theorem top2 {V k : Nat} (hV : V < B ^ (k + 2)) : V = (wd V (k + 1) * B + wd V k) * B ^ k + V % B ^ k := by
  have h := Nat.mod_eq_of_lt hV
  rw [mod_step V (k + 1), mod_step V k] at h
  have e1 : B ^ (k + 1) = B ^ k * B := Nat.pow_succ ..
  rw [e1] at h
  have e2 : (wd V (k + 1) * B + wd V k) * B ^ k = B ^ k * wd V k + B ^ k * B * wd V (k + 1) := by
    rw [Nat.add_mul]
    simp only [Nat.mul_assoc, Nat.mul_comm, Nat.mul_left_comm]
    omega
  omega
theorem ManyW.guess {A V n i s t g : Nat} (h : ManyW A V (n + 2) (i + 1) s t) (hV : V < B ^ (n + 2)) (hn : B ≤ 2 * wd V (n + 1)) (hg : GuessOf (wd t (i + (n + 2))) (wd t (i + (n + 1))) (wd t (i + n)) (wd V (n + 1)) (wd V n) g) :
    t % B ^ (i + 1 + (n + 2)) / (V * B ^ i) ≤ g ∧ g ≤ t % B ^ (i + 1 + (n + 2)) / (V * B ^ i) + 1 ∧ g < B := by
  obtain ⟨_, _, h3, _⟩ := h
  have e3 := top3 t (i + n)
  have e2 : V * B ^ i = ((wd V (n + 1) * B + wd V n) * B ^ n + V % B ^ n) * B ^ i := by rw [← top2 hV]
  rw [Nat.add_mul, Nat.mul_assoc, ← Nat.pow_add, Nat.add_comm n i] at e2
  have ei : i + 1 + (n + 2) = i + n + 3 := by omega
  rw [ei] at h3 ⊢
  have hlt : t % B ^ (i + n + 3) < V * B ^ i * B := by rw [Nat.mul_assoc, ← Nat.pow_succ]; exact h3
  rw [e3, e2] at hlt ⊢
  have hv' : V % B ^ n * B ^ i < B ^ (i + n) := by
    rw [Nat.pow_add, Nat.mul_comm (B ^ i)]
    exact Nat.mul_lt_mul_of_lt_of_le (Nat.mod_lt _ (Bp_pos n)) (Nat.le_refl _) (Bp_pos i)
  exact guess_near (by rw [Nat.add_assoc i n 2, Nat.add_assoc i n 1]; exact hg) (Nat.mod_lt _ (Bp_pos _)) hv' (wd_lt _ _) (wd_lt _ _) (wd_lt _ _) hn hlt
/-- the highest word of what is left is not more than that of what divides -/
theorem ManyW.top {A V n i s t : Nat} (h : ManyW A V (n + 1) (i + 1) s t) (hV : V < B ^ (n + 1)) : wd t (i + (n + 1)) ≤ wd V n := by
  obtain ⟨_, _, h3, _⟩ := h
  rw [show i + 1 + (n + 1) = i + (n + 1) + 1 by omega, mod_step] at h3
  have h := Nat.mod_eq_of_lt hV
  rw [mod_step] at h
  apply Nat.le_of_not_lt; intro hc
  have h1 := Nat.mul_le_mul_left (B ^ (i + (n + 1))) (show wd V n + 1 ≤ wd t (i + (n + 1)) from hc)
  have hm := Nat.mod_lt V (Bp_pos n)
  have h2 : V + 1 ≤ B ^ n * (wd V n + 1) := by rw [Nat.mul_add]; omega
  have h4 := Nat.mul_le_mul_right (B ^ (i + 1)) h2
  have e : B ^ n * (wd V n + 1) * B ^ (i + 1) = B ^ (i + (n + 1)) * (wd V n + 1) := by
    rw [Nat.mul_right_comm, ← Nat.pow_add]; congr 2; omega
  rw [e, Nat.add_mul] at h4
  have := Nat.zero_le (t % B ^ (i + (n + 1)))
  omega
theorem fits_zero {E r d x w : Nat} (hr : r < E) (h : x + E * d = r + E * w) (hx : x < E) : x = r := by
  have := congrArg (· % E) h
  simpa [Nat.add_mul_mod_self_left, Nat.mod_eq_of_lt hr, Nat.mod_eq_of_lt hx] using this
theorem pos_of_left {x V i : Nat} (h : x < V * B ^ (i + 1)) : 0 < V * B ^ i := by
  apply Nat.pos_of_ne_zero; intro h0
  rw [Nat.pow_succ, ← Nat.mul_assoc, h0, Nat.zero_mul] at h
  exact absurd h (Nat.not_lt_zero _)
/-- the step: the guess was right, or 1 more and mended -/
theorem ManyW.keep {A V n i s t t' q : Nat} (h : ManyW A V n (i + 1) s t) (hV : V < B ^ n) (ht' : t' < B ^ 9) (hq : q = t % B ^ (i + 1 + n) / (V * B ^ i)) (hr : t' % B ^ (i + n) + q * (V * B ^ i) = t % B ^ (i + 1 + n)) : ManyW A V n i (put s i q) t' := by
  obtain ⟨⟨k, rfl⟩, h2, h3, _⟩ := h
  have hW : 0 < V * B ^ i := pos_of_left h3
  refine ⟨⟨_, put_mul k i q⟩, ?_, ?_, ht'⟩
  · rw [put_mul, h2, ← hr, Nat.pow_succ, Nat.add_mul, Nat.add_mul]
    have e1 : k * (B ^ i * B) * V = k * B * B ^ i * V := by simp only [Nat.mul_assoc, Nat.mul_comm, Nat.mul_left_comm]
    have e2 : q * (V * B ^ i) = q * B ^ i * V := by simp only [Nat.mul_assoc, Nat.mul_comm, Nat.mul_left_comm]
    rw [e1, e2]; omega
  · have := Nat.mod_lt (t % B ^ (i + 1 + n)) hW
    have hd := Nat.div_add_mod (t % B ^ (i + 1 + n)) (V * B ^ i)
    rw [← hq, Nat.mul_comm] at hd
    omega
theorem LessW.sum {t0 v q i n t c w : Nat} (h : LessW t0 v q i n t c w) (hv : v < B ^ n) : t % B ^ (i + n) + q * (v * B ^ i) + B ^ (i + n) * wd t0 (i + n) = t0 % B ^ (i + 1 + n) + B ^ (i + n) * (c + w) := by
  obtain ⟨_, _, h3, h4⟩ := h
  rw [Nat.mod_eq_of_lt hv] at h3
  have d1 := Nat.mod_add_div t (B ^ (i + n))
  have d0 := Nat.mod_add_div t0 (B ^ (i + n))
  rw [h4] at d1
  rw [show i + 1 + n = i + n + 1 by omega, mod_step]
  have e : q * (v * B ^ i) = B ^ i * (q * v) := by simp only [Nat.mul_assoc, Nat.mul_comm, Nat.mul_left_comm]
  rw [e]
  omega
/-- no more was taken away than there was: the guess was right -/
theorem LessW.right {A V n i s t0 t g c w x : Nat} (hM : ManyW A V n (i + 1) s t0) (h : LessW t0 V g i n t c w) (hV : V < B ^ n) (ht : t < B ^ 9) (hq : t0 % B ^ (i + 1 + n) / (V * B ^ i) ≤ g)
    (hs : x + c + w = wd t0 (i + n) + B * 0) : ManyW A V n i (put s i g) t := by
  have hsum := h.sum hV
  have hle : g * (V * B ^ i) ≤ t0 % B ^ (i + 1 + n) := by
    have := Nat.mul_le_mul_left (B ^ (i + n)) (show c + w ≤ wd t0 (i + n) by omega)
    have := Nat.zero_le (t % B ^ (i + n))
    omega
  have hW : 0 < V * B ^ i := pos_of_left hM.2.2.1
  have hge : g ≤ t0 % B ^ (i + 1 + n) / (V * B ^ i) := (Nat.le_div_iff_mul_le hW).2 hle
  have e : g = t0 % B ^ (i + 1 + n) / (V * B ^ i) := by omega
  refine hM.keep hV ht e ?_
  have hd := Nat.div_add_mod (t0 % B ^ (i + 1 + n)) (V * B ^ i)
  have hm := Nat.mod_lt (t0 % B ^ (i + 1 + n)) hW
  rw [← e, Nat.mul_comm] at hd
  have hE : V * B ^ i < B ^ (i + n) := by
    rw [Nat.pow_add, Nat.mul_comm (B ^ i)]
    exact Nat.mul_lt_mul_of_lt_of_le hV (Nat.le_refl _) (Bp_pos i)
  have := fits_zero (E := B ^ (i + n)) (r := t % B ^ (i + n)) (x := t0 % B ^ (i + 1 + n) % (V * B ^ i)) (d := c + w) (w := wd t0 (i + n)) (Nat.mod_lt _ (Bp_pos _)) (by omega) (by omega)
  omega
theorem LessW.pos {A V n i s t0 t g c w x : Nat} (hM : ManyW A V n (i + 1) s t0) (h : LessW t0 V g i n t c w) (hV : V < B ^ n) (hx : x < B) (hs : x + c + w = wd t0 (i + n) + B * 1) : 0 < g := by
  have hsum := h.sum hV
  apply Nat.pos_of_ne_zero; intro h0
  have h1 := Nat.mul_le_mul_left (B ^ (i + n)) (show wd t0 (i + n) + 1 ≤ c + w by omega)
  have hm := Nat.mod_lt t (Bp_pos (i + n))
  rw [Nat.mul_add, Nat.mul_one] at h1
  rw [h0, Nat.zero_mul] at hsum
  have := Nat.zero_le (t0 % B ^ (i + 1 + n))
  omega
/-- more was taken away than there was: the guess was 1 more; what divides is put back -/
theorem LessW.mend {A V n i s t0 t t2 g c w x c2 : Nat} (hM : ManyW A V n (i + 1) s t0) (h : LessW t0 V g i n t c w) (hR : RaiseW t V i n t2 c2) (hV : V < B ^ n) (ht : t2 < B ^ 9) (hq : g ≤ t0 % B ^ (i + 1 + n) / (V * B ^ i) + 1)
    (hx : x < B) (hs : x + c + w = wd t0 (i + n) + B * 1) : 0 < g ∧ ManyW A V n i (put s i (g - 1)) t2 := by
  have hsum := h.sum hV
  have hgt : t0 % B ^ (i + 1 + n) < g * (V * B ^ i) := by
    have h1 := Nat.mul_le_mul_left (B ^ (i + n)) (show wd t0 (i + n) + 1 ≤ c + w by omega)
    have hm := Nat.mod_lt t (Bp_pos (i + n))
    rw [Nat.mul_add, Nat.mul_one] at h1
    omega
  have hW : 0 < V * B ^ i := pos_of_left hM.2.2.1
  have hg0 : t0 % B ^ (i + 1 + n) / (V * B ^ i) < g := (Nat.div_lt_iff_lt_mul hW).2 hgt
  have e : g - 1 = t0 % B ^ (i + 1 + n) / (V * B ^ i) := by
    clear hsum hgt
    generalize t0 % B ^ (i + 1 + n) / (V * B ^ i) = q at *
    omega
  have hgp : 0 < g := Nat.lt_of_le_of_lt (Nat.zero_le _) hg0
  refine ⟨hgp, hM.keep hV ht e ?_⟩
  have hd := Nat.div_add_mod (t0 % B ^ (i + 1 + n)) (V * B ^ i)
  have hm := Nat.mod_lt (t0 % B ^ (i + 1 + n)) hW
  rw [← e, Nat.mul_comm] at hd
  have hE : V * B ^ i < B ^ (i + n) := by
    rw [Nat.pow_add, Nat.mul_comm (B ^ i)]
    exact Nat.mul_lt_mul_of_lt_of_le hV (Nat.le_refl _) (Bp_pos i)
  obtain ⟨_, r2, r3⟩ := hR
  rw [Nat.mod_eq_of_lt hV] at r2
  have d1 := Nat.mod_add_div t (B ^ (i + n))
  have d2 := Nat.mod_add_div t2 (B ^ (i + n))
  rw [r3] at d2
  have eg : g * (V * B ^ i) = (g - 1) * (V * B ^ i) + V * B ^ i := by rw [← Nat.succ_mul]; congr 1; exact (Nat.succ_pred_eq_of_pos (Nat.lt_of_le_of_lt (Nat.zero_le _) hg0)).symm
  have ec : B ^ i * V = V * B ^ i := Nat.mul_comm _ _
  have := fits_zero (E := B ^ (i + n)) (r := t2 % B ^ (i + n)) (x := t0 % B ^ (i + 1 + n) % (V * B ^ i)) (d := c + w) (w := wd t0 (i + n) + c2) (Nat.mod_lt _ (Bp_pos _)) (by rw [Nat.mul_add (B ^ (i + n)) (wd t0 (i + n))]; omega) (by omega)
  omega
/-! ### square roots -/
theorem newton {a x : Nat} (hx : 0 < x) : a < ((x + a / x) / 2 + 1) * ((x + a / x) / 2 + 1) := by
  have h1 : a < x * (a / x + 1) := Nat.lt_mul_div_succ a hx
  generalize hy : a / x + 1 = y at *
  obtain ⟨k, hk⟩ : ∃ k, k = (x + a / x) / 2 + 1 := ⟨_, rfl⟩
  rw [← hk]
  have h2 : x + y ≤ 2 * k := by omega
  have h3 := Nat.mul_le_mul h2 h2
  have e1 : 2 * k * (2 * k) = 4 * (k * k) := by rw [Nat.mul_mul_mul_comm]
  have h4 : 4 * (x * y) ≤ (x + y) * (x + y) := by
    rcases Nat.le_total x y with h | h
    · obtain ⟨d, rfl⟩ := Nat.exists_eq_add_of_le h
      have : (x + (x + d)) * (x + (x + d)) = 4 * (x * (x + d)) + d * d := by
        simp only [Nat.mul_add, Nat.add_mul, Nat.mul_comm d x]; omega
      omega
    · obtain ⟨d, rfl⟩ := Nat.exists_eq_add_of_le h
      have : (y + d + y) * (y + d + y) = 4 * ((y + d) * y) + d * d := by
        simp only [Nat.mul_add, Nat.add_mul, Nat.mul_comm d y]; omega
      omega
  omega
/-- x is the square root, cut -/
def RootOf (a x : Nat) : Prop := x * x ≤ a ∧ a < (x + 1) * (x + 1)
theorem root_over {a x : Nat} (hx : 0 < x) (h : a < (x + 1) * (x + 1)) (hn : x ≤ (x + a / x) / 2) : RootOf a x := by
  refine ⟨?_, h⟩
  have : x ≤ a / x := by omega
  exact (Nat.le_div_iff_mul_le hx).1 this
theorem root_quot {a x : Nat} (hx : 0 < x) (h : a < (x + 1) * (x + 1)) : a / x ≤ x + 2 := by
  have : a < x * (x + 3) := by
    have e : (x + 1) * (x + 1) = x * x + x + x + 1 := by rw [Nat.mul_add, Nat.add_mul]; omega
    rw [Nat.mul_add]; omega
  have := (Nat.div_lt_iff_lt_mul hx).2 (by rwa [Nat.mul_comm] at this)
  omega
/-! ### divisors -/
/-- two numbers of Fibonacci's, one behind the other -/
def fibs : Nat → Nat × Nat
  | 0 => (0, 1)
  | n + 1 => ((fibs n).2, (fibs n).1 + (fibs n).2)
/-- behind k + 1 rests from (.., b0) on -/
def RestsW (b0 k a b : Nat) : Prop := b < a ∧ (fibs k).2 * a + (fibs k).1 * b ≤ b0
theorem RestsW.start {a b : Nat} (hb : 0 < b) : RestsW b 0 b (a % b) := ⟨Nat.mod_lt _ hb, by simp [fibs]⟩
theorem RestsW.next {b0 k a b : Nat} (h : RestsW b0 k a b) (hb : 0 < b) : RestsW b0 (k + 1) b (a % b) := by
  obtain ⟨h1, h2⟩ := h
  refine ⟨Nat.mod_lt _ hb, ?_⟩
  have hd : b + a % b ≤ a := by
    have h3 := Nat.mod_add_div a b
    have h4 : 1 ≤ a / b := (Nat.le_div_iff_mul_le hb).2 (by omega)
    have := Nat.mul_le_mul_left b h4
    omega
  have := Nat.mul_le_mul_left (fibs k).2 hd
  simp only [fibs]
  rw [Nat.add_mul]
  rw [Nat.mul_add] at this
  omega
theorem fib_big : M ≤ (fibs 998).2 := by
  unfold M
  rw [B_eq]
  decide +kernel
theorem RestsW.few {b0 k a b : Nat} (h : RestsW b0 k a b) (hb0 : b0 < M) : k < 998 := by
  apply Nat.lt_of_not_le; intro hc
  have mono : ∀ j, (fibs 998).2 ≤ (fibs (998 + j)).2 := by
    intro j
    induction j with
    | zero => exact Nat.le_refl _
    | succ j ih =>
      have : (fibs (998 + (j + 1))).2 = (fibs (998 + j)).1 + (fibs (998 + j)).2 := rfl
      omega
  obtain ⟨j, rfl⟩ := Nat.exists_eq_add_of_le hc
  obtain ⟨h1, h2⟩ := h
  have h3 := mono j
  have h4 := fib_big
  have h5 := Nat.mul_le_mul_left (fibs (998 + j)).2 (show 1 ≤ a by omega)
  generalize (fibs (998 + j)).2 = x at *
  generalize (fibs 998).2 = y at *
  omega
end QuotM
