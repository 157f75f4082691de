/-
  Texts of the layers below in one: QuotMath QuotMath2 Fmt DecMath Quot Quot2 Quot3 Quot4 Quot5 Quot6 Quot7 Quot8 Quot9 Quot10 QuotRef QuotRef2.
-/
import Derived.Test.YtacicfmalhhceaaGreatDoorLow2
import Derived.Test.YtacicfmalhhceaaGreatDoorShelf
import Derived.Test.YtacicfmalhhceaaGreatDoorBase
import Derived.Lib.ItoaMem
import Derived.Lib.AppendIntMem
import Derived.Lib.Walk
import Derived.BigCall
import Derived.BigGuard
import Derived.Lib.ItoaNum
import Derived.Lib.Repeat
import Derived.Deep.RegionHeld3
import Derived.Laws.CopyOwn
import Derived.Deep.LoopGhost
import Derived.WalkSmall
import Derived.OwnWalk
import Derived.LoopTactic
/- Quotients, square roots, divisors of numbers of words: plain mathematics, of no program. -/
namespace QuotM
open DigM WideM
theorem put_high {n k x : Nat} (hx : x < B) : put n k x / B ^ (k + 1) = n / B ^ (k + 1) := by
  have hm := Nat.mod_lt n (Bp_pos k)
  unfold put
  rw [Nat.pow_succ, ← Nat.div_div_eq_div_mul, Nat.add_mul_div_left _ _ (Bp_pos k), Nat.div_eq_of_lt hm, Nat.zero_add, Nat.add_mul_div_left _ _ B_pos, Nat.div_eq_of_lt hx, Nat.zero_add]
theorem wd_mul_high (s m : Nat) : wd (s * B ^ (m + 1)) m = 0 := by
  unfold wd
  rw [Nat.pow_succ, show s * (B ^ m * B) = B ^ m * (s * B) by rw [Nat.mul_left_comm], Nat.mul_div_cancel_left _ (Bp_pos m), Nat.mul_mod_left]
theorem put_mul (s m q : Nat) : put (s * B ^ (m + 1)) m q = (s * B + q) * B ^ m := by
  have := put_eq (s * B ^ (m + 1)) m q
  rw [wd_mul_high, Nat.mul_zero, Nat.add_zero] at this
  rw [this, Nat.pow_succ, Nat.add_mul, Nat.mul_assoc, Nat.mul_comm B (B ^ m), Nat.mul_comm q]
/-! ### by a word -/
def WordQ (a y m s r : Nat) : Prop := r = a / B ^ m % y ∧ s = a / B ^ m / y * B ^ m
theorem WordQ.start {a y : Nat} (ha : a < M) : WordQ a y 8 0 0 := by
  have : a / B ^ 8 = 0 := Nat.div_eq_of_lt ha
  simp [WordQ, this]
theorem WordQ.lt {a y m s r : Nat} (h : WordQ a y m s r) (hy : 0 < y) : r < y := by rw [h.1]; exact Nat.mod_lt _ hy
theorem WordQ.next {a y m s r q o : Nat} (h : WordQ a y (m + 1) s r) (hy : 0 < y) (ho : o < y) (he : q * y + o = r * B + wd a m) : WordQ a y m (put s m q) o := by
  obtain ⟨rfl, rfl⟩ := h
  have e : a / B ^ m = a / B ^ (m + 1) * B + wd a m := by
    unfold wd
    have := Nat.mod_add_div (a / B ^ m) B
    rw [Nat.pow_succ, ← Nat.div_div_eq_div_mul, Nat.mul_comm]; omega
  have d := Nat.div_add_mod (a / B ^ (m + 1)) y
  generalize a / B ^ (m + 1) = A at *
  have e2 : a / B ^ m = o + y * (A / y * B + q) := by
    have : A * B = y * (A / y) * B + A % y * B := by rw [← Nat.add_mul, d]
    rw [e, Nat.mul_add, ← Nat.mul_assoc, Nat.mul_comm y q]; omega
  refine ⟨by rw [e2, Nat.add_mul_mod_self_left, Nat.mod_eq_of_lt ho], ?_⟩
  rw [e2, Nat.add_mul_div_left _ _ hy, Nat.div_eq_of_lt ho, Nat.zero_add, put_mul]
theorem WordQ.over {a y s r : Nat} (h : WordQ a y 0 s r) : s = a / y ∧ r = a % y := by
  obtain ⟨h1, h2⟩ := h
  simp at h1 h2
  exact ⟨h2, h1⟩
/-! ### a guess, told by the highest words -/
def GuessOf (u0 u1 u2 v1 v2 g : Nat) : Prop :=
  ∃ qh p, qh < B ∧ qh * v1 + p = u0 * B + u1 ∧ (p < v1 ∨ qh + 1 = B) ∧ ((qh * v2 ≤ p * B + u2 ∧ g = qh) ∨ (p * B + u2 < qh * v2 ∧ g + 1 = qh))
theorem lt_of_mul_lt {a b c : Nat} (h : a * c < b * c) : a < b := Nat.lt_of_mul_lt_mul_right h
theorem guess_near {P u0 u1 u2 u' v1 v2 v' g : Nat} (h : GuessOf u0 u1 u2 v1 v2 g) (hu' : u' < P) (hv' : v' < P) (hu1 : u1 < B) (hu2 : u2 < B) (hv2 : v2 < B) (hn : B ≤ 2 * v1)
    (hlt : (u0 * B * B + u1 * B + u2) * P + u' < ((v1 * B + v2) * P + v') * B) :
    ((u0 * B * B + u1 * B + u2) * P + u') / ((v1 * B + v2) * P + v') ≤ g ∧ g ≤ ((u0 * B * B + u1 * B + u2) * P + u') / ((v1 * B + v2) * P + v') + 1 ∧ g < B := by
  obtain ⟨qh, p, hq, he, hp, hg⟩ := h
  have hB := B_pos
  have hv1 : 0 < v1 := by omega
  have hP : 0 < P := by omega
  -- the names of the numbers
  obtain ⟨U, hU⟩ : ∃ U, U = (u0 * B * B + u1 * B + u2) * P + u' := ⟨_, rfl⟩
  obtain ⟨V, hV⟩ : ∃ V, V = (v1 * B + v2) * P + v' := ⟨_, rfl⟩
  obtain ⟨U3, hU3⟩ : ∃ U3, U3 = u0 * B * B + u1 * B + u2 := ⟨_, rfl⟩
  obtain ⟨V2, hV2⟩ : ∃ V2, V2 = v1 * B + v2 := ⟨_, rfl⟩
  obtain ⟨U2, hU2⟩ : ∃ U2, U2 = u0 * B + u1 := ⟨_, rfl⟩
  have hU32 : U3 = U2 * B + u2 := by rw [hU3, hU2, Nat.add_mul]
  rw [← hU, ← hV] at hlt
  rw [← hU, ← hV]
  rw [← hU3] at hU
  rw [← hV2] at hV
  rw [← hU2] at he
  have hV2B : B ≤ V2 := by
    have := Nat.mul_le_mul_right B (show 1 ≤ v1 from hv1)
    rw [Nat.one_mul] at this; omega
  have hVpos : 0 < V := by
    have := Nat.mul_pos (show 0 < V2 by omega) hP; omega
  obtain ⟨q, hqd⟩ : ∃ q, q = U / V := ⟨_, rfl⟩
  rw [← hqd]
  have q1 : q * V ≤ U := by rw [hqd]; exact Nat.div_mul_le_self U V
  have q2 : U < (q + 1) * V := by rw [hqd, Nat.mul_comm]; exact Nat.lt_mul_div_succ U hVpos
  have qB : q < B := by rw [hqd]; exact Nat.div_lt_of_lt_mul (by rw [Nat.mul_comm] at hlt; rw [Nat.mul_comm]; first | exact hlt | (rw [Nat.mul_comm]; exact hlt))
  clear hqd
  -- what the numbers are at least and at most
  have V_ge : V2 * P ≤ V := by omega
  have V_lt : V < (V2 + 1) * P := by rw [Nat.add_mul, Nat.one_mul]; omega
  have U_ge : U3 * P ≤ U := by omega
  have U_lt : U < (U3 + 1) * P := by rw [Nat.add_mul, Nat.one_mul]; omega
  -- q times the highest two words is not more than the highest three
  have a1 : q * V2 ≤ U3 := by
    have h1 := Nat.mul_le_mul_left q V_ge
    rw [← Nat.mul_assoc] at h1
    have : q * V2 * P < (U3 + 1) * P := by omega
    have := lt_of_mul_lt this
    omega
  have a2 : U3 < (q + 2) * V2 := by
    apply Nat.lt_of_not_le; intro hc
    have h1 := Nat.mul_le_mul_right P hc
    have h2 := Nat.mul_lt_mul_of_lt_of_le (show q < q + 1 by omega) (Nat.le_refl V) hVpos
    have h3 : (q + 1) * V ≤ (q + 1) * ((V2 + 1) * P) := Nat.mul_le_mul_left _ (Nat.le_of_lt V_lt)
    rw [← Nat.mul_assoc] at h3
    have h4 := lt_of_mul_lt (show (q + 2) * V2 * P < (q + 1) * (V2 + 1) * P by omega)
    have e1 : (q + 2) * V2 = q * V2 + 2 * V2 := Nat.add_mul _ _ _
    have e2 : (q + 1) * (V2 + 1) = q * V2 + V2 + (q + 1) := by rw [Nat.mul_add, Nat.add_mul]; omega
    omega
  -- q is qh at most
  have a3 : q ≤ qh := by
    rcases hp with hp | hp
    · apply Nat.le_of_not_lt; intro hc
      have h1 : q * (v1 * B) ≤ q * V2 := Nat.mul_le_mul_left _ (by omega)
      rw [← Nat.mul_assoc] at h1
      have h2 := Nat.mul_le_mul_right v1 (show qh + 1 ≤ q from hc)
      rw [Nat.add_mul, Nat.one_mul] at h2
      have h3 := Nat.mul_le_mul_right B (show U2 + 1 ≤ q * v1 by omega)
      rw [Nat.add_mul, Nat.one_mul] at h3
      omega
    · omega
  have a4 : qh ≤ q + 2 := by
    apply Nat.le_of_not_lt; intro hc
    have h1 := Nat.mul_le_mul_right v1 (show q + 3 ≤ qh from hc)
    have h2 : qh * v1 ≤ U2 := by omega
    -- qh v1 B P <= U < (q+1) (v1+1) B P
    have h3 := Nat.mul_le_mul_right P (show U2 * B ≤ U3 by omega)
    have h4 : V ≤ (v1 + 1) * B * P := by
      have : V2 + 1 ≤ (v1 + 1) * B := by rw [Nat.add_mul, Nat.one_mul]; omega
      have := Nat.mul_le_mul_right P this
      omega
    have h5 := Nat.mul_le_mul_left (q + 1) h4
    have h6 : U2 * B * P < (q + 1) * (v1 + 1) * B * P := by
      have e : (q + 1) * (v1 + 1) * B * P = (q + 1) * ((v1 + 1) * B * P) := by simp only [Nat.mul_assoc]
      rw [e]; omega
    have h7 := lt_of_mul_lt (lt_of_mul_lt h6)
    have e1 : (q + 3) * v1 = q * v1 + 3 * v1 := Nat.add_mul _ _ _
    have e2 : (q + 1) * (v1 + 1) = q * v1 + v1 + (q + 1) := by rw [Nat.mul_add, Nat.add_mul]; omega
    omega
  -- the test tells whether qh times the highest two words is more than the highest three
  have e : qh * V2 + p * B + u2 = U3 + qh * v2 := by
    rw [hU32, hV2, Nat.mul_add, ← Nat.mul_assoc, ← he, Nat.add_mul]; omega
  rcases hg with ⟨ht, rfl⟩ | ⟨ht, hg⟩
  · refine ⟨a3, ?_, hq⟩
    apply Nat.le_of_not_lt; intro hc
    have := Nat.mul_le_mul_right V2 (show q + 2 ≤ g from hc)
    omega
  · refine ⟨?_, by omega, by omega⟩
    apply Nat.le_of_not_lt; intro hc
    have := Nat.mul_le_mul_right V2 (show qh ≤ q by omega)
    omega
/-! ### a product taken away, word by word -/
def LessW (t0 v q i j t c w : Nat) : Prop := w ≤ 1 ∧ c < B ∧ t + B ^ i * (q * (v % B ^ j)) = t0 + B ^ (i + j) * (c + w) ∧ t / B ^ (i + j) = t0 / B ^ (i + j)
theorem LessW.start (t0 v q i : Nat) : LessW t0 v q i 0 t0 0 0 := ⟨by decide, B_pos, by simp [Nat.mod_one], rfl⟩
theorem LessW.next {t0 v q i j t c w hi lo l2 o z w' : Nat} (h : LessW t0 v q i j t c w) (hq : q < B) (hm : hi * B + lo = q * wd v j) (ha : l2 + B * o = lo + c) (hz : z < B) (hw : w' ≤ 1)
    (hs : z + l2 + w = wd t (i + j) + B * w') : LessW t0 v q i (j + 1) (put t (i + j) z) (hi + o) w' := by
  obtain ⟨h1, h2, h3, h4⟩ := h
  refine ⟨hw, ?_, ?_, ?_⟩
  · have hv := wd_lt v j
    have h5 := Nat.mul_le_mul (show q ≤ B - 1 by omega) (show wd v j ≤ B - 1 by omega)
    have hB := B_pos
    have h6 : (hi + o) * B ≤ (B - 1) * B := by
      have e1 : (hi + o) * B = hi * B + B * o := by rw [Nat.add_mul, Nat.mul_comm o]
      have e2 : (B - 1) * B = (B - 1) * (B - 1) + (B - 1) := by rw [← Nat.mul_succ]; congr 1; omega
      omega
    have := Nat.le_of_mul_le_mul_right h6 hB
    omega
  · have hp := put_eq t (i + j) z
    have e1 : B ^ (i + (j + 1)) = B ^ (i + j) * B := by rw [← Nat.add_assoc, Nat.pow_succ]
    have e2 : B ^ i * (q * (v % B ^ (j + 1))) = B ^ i * (q * (v % B ^ j)) + B ^ (i + j) * (q * wd v j) := by
      rw [mod_step, Nat.mul_add, Nat.mul_add, Nat.pow_add]
      simp only [Nat.mul_assoc, Nat.mul_left_comm]
    rw [e1, e2, Nat.mul_assoc]
    have s1 := congrArg (B ^ (i + j) * ·) hm
    have s2 := congrArg (B ^ (i + j) * ·) ha
    have s3 := congrArg (B ^ (i + j) * ·) hs
    simp only [Nat.mul_add] at s1 s2 s3 h3 ⊢
    rw [Nat.mul_comm hi B] at s1
    omega
  · rw [← Nat.add_assoc, put_high hz, Nat.pow_succ, ← Nat.div_div_eq_div_mul, h4, Nat.div_div_eq_div_mul]
def RaiseW (t0 v i j t c : Nat) : Prop := c ≤ 1 ∧ t + B ^ (i + j) * c = t0 + B ^ i * (v % B ^ j) ∧ t / B ^ (i + j) = t0 / B ^ (i + j)
theorem RaiseW.start (t0 v i : Nat) : RaiseW t0 v i 0 t0 0 := ⟨by decide, by simp [Nat.mod_one], rfl⟩
theorem RaiseW.next {t0 v i j t c z c' : Nat} (h : RaiseW t0 v i j t c) (hz : z < B) (hc : c' ≤ 1) (hs : z + B * c' = wd t (i + j) + wd v j + c) : RaiseW t0 v i (j + 1) (put t (i + j) z) c' := by
  obtain ⟨h1, h3, h4⟩ := h
  refine ⟨hc, ?_, ?_⟩
  · have hp := put_eq t (i + j) z
    have e1 : B ^ (i + (j + 1)) = B ^ (i + j) * B := by rw [← Nat.add_assoc, Nat.pow_succ]
    have e2 : B ^ i * (v % B ^ (j + 1)) = B ^ i * (v % B ^ j) + B ^ (i + j) * wd v j := by
      rw [mod_step, Nat.mul_add, Nat.pow_add, Nat.mul_assoc]
    rw [e1, e2, Nat.mul_assoc]
    have s3 := congrArg (B ^ (i + j) * ·) hs
    simp only [Nat.mul_add] at s3 h3 ⊢
    omega
  · rw [← Nat.add_assoc, put_high hz, Nat.pow_succ, ← Nat.div_div_eq_div_mul, h4, Nat.div_div_eq_div_mul]
/-! ### by many words -/
/-- A is to be divided by V, of n words: s is the quotient's part above word m; t's words below m + n are left -/
def ManyW (A V n m s t : Nat) : Prop := (∃ k, s = k * B ^ m) ∧ A = s * V + t % B ^ (m + n) ∧ t % B ^ (m + n) < V * B ^ m ∧ t < B ^ 9
theorem ManyW.start {A V n m : Nat} (hA : A < V * B ^ m) (h9 : A < B ^ 9) (hm : m + n = 9) : ManyW A V n m 0 A := by
  refine ⟨⟨0, by simp⟩, ?_, ?_, h9⟩ <;> rw [hm, Nat.mod_eq_of_lt h9]
  · simp
  · exact hA
theorem ManyW.over {A V n s t : Nat} (h : ManyW A V n 0 s t) : s = A / V ∧ t % B ^ n = A % V := by
  obtain ⟨_, h1, h2, _⟩ := h
  rw [Nat.zero_add] at h1 h2
  rw [Nat.pow_zero, Nat.mul_one] at h2
  have hV : 0 < V := Nat.lt_of_le_of_lt (Nat.zero_le _) h2
  rw [h1, Nat.add_comm, Nat.add_mul_div_right _ _ hV, Nat.add_mul_mod_self_right, Nat.div_eq_of_lt h2, Nat.mod_eq_of_lt h2, Nat.zero_add]
  exact ⟨rfl, rfl⟩
/-- the highest three words of what is left -/
theorem top3 (t k : Nat) : t % B ^ (k + 3) = (wd t (k + 2) * B * B + wd t (k + 1) * B + wd t k) * B ^ k + t % B ^ k := by
  rw [mod_step t (k + 2), mod_step t (k + 1), mod_step t k]
  have e1 : B ^ (k + 1) = B ^ k * B := Nat.pow_succ ..
  have e2 : B ^ (k + 2) = B ^ k * B * B := by rw [Nat.pow_succ, Nat.pow_succ]
  rw [e1, e2]
  simp only [Nat.add_mul, Nat.mul_assoc, Nat.mul_comm (B ^ k)]
  rw [Nat.mul_comm (wd t k) (B ^ k), Nat.mul_comm (wd t (k + 1)) (B * B ^ k), Nat.mul_comm (wd t (k + 2)) (B * (B * B ^ k))]
  simp only [Nat.mul_assoc, Nat.mul_comm]
  omega
theorem top2 {V k : Nat} (hV : V < B ^ (k + 2)) : V = (wd V (k + 1) * B + wd V k) * B ^ k + V % B ^ k := by
  have h := Nat.mod_eq_of_lt hV
  rw [mod_step V (k + 1), mod_step V k] at h
  have e1 : B ^ (k + 1) = B ^ k * B := Nat.pow_succ ..
  rw [e1] at h
  have e2 : (wd V (k + 1) * B + wd V k) * B ^ k = B ^ k * wd V k + B ^ k * B * wd V (k + 1) := by
    rw [Nat.add_mul]
    simp only [Nat.mul_assoc, Nat.mul_comm, Nat.mul_left_comm]
    omega
  omega
theorem ManyW.guess {A V n i s t g : Nat} (h : ManyW A V (n + 2) (i + 1) s t) (hV : V < B ^ (n + 2)) (hn : B ≤ 2 * wd V (n + 1)) (hg : GuessOf (wd t (i + (n + 2))) (wd t (i + (n + 1))) (wd t (i + n)) (wd V (n + 1)) (wd V n) g) :
    t % B ^ (i + 1 + (n + 2)) / (V * B ^ i) ≤ g ∧ g ≤ t % B ^ (i + 1 + (n + 2)) / (V * B ^ i) + 1 ∧ g < B := by
  obtain ⟨_, _, h3, _⟩ := h
  have e3 := top3 t (i + n)
  have e2 : V * B ^ i = ((wd V (n + 1) * B + wd V n) * B ^ n + V % B ^ n) * B ^ i := by rw [← top2 hV]
  rw [Nat.add_mul, Nat.mul_assoc, ← Nat.pow_add, Nat.add_comm n i] at e2
  have ei : i + 1 + (n + 2) = i + n + 3 := by omega
  rw [ei] at h3 ⊢
  have hlt : t % B ^ (i + n + 3) < V * B ^ i * B := by rw [Nat.mul_assoc, ← Nat.pow_succ]; exact h3
  rw [e3, e2] at hlt ⊢
  have hv' : V % B ^ n * B ^ i < B ^ (i + n) := by
    rw [Nat.pow_add, Nat.mul_comm (B ^ i)]
    exact Nat.mul_lt_mul_of_lt_of_le (Nat.mod_lt _ (Bp_pos n)) (Nat.le_refl _) (Bp_pos i)
  exact guess_near (by rw [Nat.add_assoc i n 2, Nat.add_assoc i n 1]; exact hg) (Nat.mod_lt _ (Bp_pos _)) hv' (wd_lt _ _) (wd_lt _ _) (wd_lt _ _) hn hlt
/-- the highest word of what is left is not more than that of what divides -/
theorem ManyW.top {A V n i s t : Nat} (h : ManyW A V (n + 1) (i + 1) s t) (hV : V < B ^ (n + 1)) : wd t (i + (n + 1)) ≤ wd V n := by
  obtain ⟨_, _, h3, _⟩ := h
  rw [show i + 1 + (n + 1) = i + (n + 1) + 1 by omega, mod_step] at h3
  have h := Nat.mod_eq_of_lt hV
  rw [mod_step] at h
  apply Nat.le_of_not_lt; intro hc
  have h1 := Nat.mul_le_mul_left (B ^ (i + (n + 1))) (show wd V n + 1 ≤ wd t (i + (n + 1)) from hc)
  have hm := Nat.mod_lt V (Bp_pos n)
  have h2 : V + 1 ≤ B ^ n * (wd V n + 1) := by rw [Nat.mul_add]; omega
  have h4 := Nat.mul_le_mul_right (B ^ (i + 1)) h2
  have e : B ^ n * (wd V n + 1) * B ^ (i + 1) = B ^ (i + (n + 1)) * (wd V n + 1) := by
    rw [Nat.mul_right_comm, ← Nat.pow_add]; congr 2; omega
  rw [e, Nat.add_mul] at h4
  have := Nat.zero_le (t % B ^ (i + (n + 1)))
  omega
theorem fits_zero {E r d x w : Nat} (hr : r < E) (h : x + E * d = r + E * w) (hx : x < E) : x = r := by
  have := congrArg (· % E) h
  simpa [Nat.add_mul_mod_self_left, Nat.mod_eq_of_lt hr, Nat.mod_eq_of_lt hx] using this
theorem pos_of_left {x V i : Nat} (h : x < V * B ^ (i + 1)) : 0 < V * B ^ i := by
  apply Nat.pos_of_ne_zero; intro h0
  rw [Nat.pow_succ, ← Nat.mul_assoc, h0, Nat.zero_mul] at h
  exact absurd h (Nat.not_lt_zero _)
/-- the step: the guess was right, or 1 more and mended -/
theorem ManyW.keep {A V n i s t t' q : Nat} (h : ManyW A V n (i + 1) s t) (_hV : V < B ^ n) (ht' : t' < B ^ 9) (hq : q = t % B ^ (i + 1 + n) / (V * B ^ i)) (hr : t' % B ^ (i + n) + q * (V * B ^ i) = t % B ^ (i + 1 + n)) : ManyW A V n i (put s i q) t' := by
  obtain ⟨⟨k, rfl⟩, h2, h3, _⟩ := h
  have hW : 0 < V * B ^ i := pos_of_left h3
  refine ⟨⟨_, put_mul k i q⟩, ?_, ?_, ht'⟩
  · rw [put_mul, h2, ← hr, Nat.pow_succ, Nat.add_mul, Nat.add_mul]
    have e1 : k * (B ^ i * B) * V = k * B * B ^ i * V := by simp only [Nat.mul_assoc, Nat.mul_comm]
    have e2 : q * (V * B ^ i) = q * B ^ i * V := by simp only [Nat.mul_comm, Nat.mul_left_comm]
    rw [e1, e2]; omega
  · have := Nat.mod_lt (t % B ^ (i + 1 + n)) hW
    have hd := Nat.div_add_mod (t % B ^ (i + 1 + n)) (V * B ^ i)
    rw [← hq, Nat.mul_comm] at hd
    omega
theorem LessW.sum {t0 v q i n t c w : Nat} (h : LessW t0 v q i n t c w) (hv : v < B ^ n) : t % B ^ (i + n) + q * (v * B ^ i) + B ^ (i + n) * wd t0 (i + n) = t0 % B ^ (i + 1 + n) + B ^ (i + n) * (c + w) := by
  obtain ⟨_, _, h3, h4⟩ := h
  rw [Nat.mod_eq_of_lt hv] at h3
  have d1 := Nat.mod_add_div t (B ^ (i + n))
  have d0 := Nat.mod_add_div t0 (B ^ (i + n))
  rw [h4] at d1
  rw [show i + 1 + n = i + n + 1 by omega, mod_step]
  have e : q * (v * B ^ i) = B ^ i * (q * v) := by simp only [Nat.mul_assoc, Nat.mul_comm, Nat.mul_left_comm]
  rw [e]
  omega
/-- no more was taken away than there was: the guess was right -/
theorem LessW.right {A V n i s t0 t g c w x : Nat} (hM : ManyW A V n (i + 1) s t0) (h : LessW t0 V g i n t c w) (hV : V < B ^ n) (ht : t < B ^ 9) (hq : t0 % B ^ (i + 1 + n) / (V * B ^ i) ≤ g)
    (hs : x + c + w = wd t0 (i + n) + B * 0) : ManyW A V n i (put s i g) t := by
  have hsum := h.sum hV
  have hle : g * (V * B ^ i) ≤ t0 % B ^ (i + 1 + n) := by
    have := Nat.mul_le_mul_left (B ^ (i + n)) (show c + w ≤ wd t0 (i + n) by omega)
    have := Nat.zero_le (t % B ^ (i + n))
    omega
  have hW : 0 < V * B ^ i := pos_of_left hM.2.2.1
  have hge : g ≤ t0 % B ^ (i + 1 + n) / (V * B ^ i) := (Nat.le_div_iff_mul_le hW).2 hle
  have e : g = t0 % B ^ (i + 1 + n) / (V * B ^ i) := by omega
  refine hM.keep hV ht e ?_
  have hd := Nat.div_add_mod (t0 % B ^ (i + 1 + n)) (V * B ^ i)
  have hm := Nat.mod_lt (t0 % B ^ (i + 1 + n)) hW
  rw [← e, Nat.mul_comm] at hd
  have hE : V * B ^ i < B ^ (i + n) := by
    rw [Nat.pow_add, Nat.mul_comm (B ^ i)]
    exact Nat.mul_lt_mul_of_lt_of_le hV (Nat.le_refl _) (Bp_pos i)
  have := fits_zero (E := B ^ (i + n)) (r := t % B ^ (i + n)) (x := t0 % B ^ (i + 1 + n) % (V * B ^ i)) (d := c + w) (w := wd t0 (i + n)) (Nat.mod_lt _ (Bp_pos _)) (by omega) (by omega)
  omega
theorem LessW.pos {A V n i s t0 t g c w x : Nat} (_hM : ManyW A V n (i + 1) s t0) (h : LessW t0 V g i n t c w) (hV : V < B ^ n) (hx : x < B) (hs : x + c + w = wd t0 (i + n) + B * 1) : 0 < g := by
  have hsum := h.sum hV
  apply Nat.pos_of_ne_zero; intro h0
  have h1 := Nat.mul_le_mul_left (B ^ (i + n)) (show wd t0 (i + n) + 1 ≤ c + w by omega)
  have hm := Nat.mod_lt t (Bp_pos (i + n))
  rw [Nat.mul_add, Nat.mul_one] at h1
  rw [h0, Nat.zero_mul] at hsum
  have := Nat.zero_le (t0 % B ^ (i + 1 + n))
  omega
/-- more was taken away than there was: the guess was 1 more; what divides is put back -/
theorem LessW.mend {A V n i s t0 t t2 g c w x c2 : Nat} (hM : ManyW A V n (i + 1) s t0) (h : LessW t0 V g i n t c w) (hR : RaiseW t V i n t2 c2) (hV : V < B ^ n) (ht : t2 < B ^ 9) (hq : g ≤ t0 % B ^ (i + 1 + n) / (V * B ^ i) + 1)
    (hx : x < B) (hs : x + c + w = wd t0 (i + n) + B * 1) : 0 < g ∧ ManyW A V n i (put s i (g - 1)) t2 := by
  have hsum := h.sum hV
  have hgt : t0 % B ^ (i + 1 + n) < g * (V * B ^ i) := by
    have h1 := Nat.mul_le_mul_left (B ^ (i + n)) (show wd t0 (i + n) + 1 ≤ c + w by omega)
    have hm := Nat.mod_lt t (Bp_pos (i + n))
    rw [Nat.mul_add, Nat.mul_one] at h1
    omega
  have hW : 0 < V * B ^ i := pos_of_left hM.2.2.1
  have hg0 : t0 % B ^ (i + 1 + n) / (V * B ^ i) < g := (Nat.div_lt_iff_lt_mul hW).2 hgt
  have e : g - 1 = t0 % B ^ (i + 1 + n) / (V * B ^ i) := by
    clear hsum hgt
    generalize t0 % B ^ (i + 1 + n) / (V * B ^ i) = q at *
    omega
  have hgp : 0 < g := Nat.lt_of_le_of_lt (Nat.zero_le _) hg0
  refine ⟨hgp, hM.keep hV ht e ?_⟩
  have hd := Nat.div_add_mod (t0 % B ^ (i + 1 + n)) (V * B ^ i)
  have hm := Nat.mod_lt (t0 % B ^ (i + 1 + n)) hW
  rw [← e, Nat.mul_comm] at hd
  have hE : V * B ^ i < B ^ (i + n) := by
    rw [Nat.pow_add, Nat.mul_comm (B ^ i)]
    exact Nat.mul_lt_mul_of_lt_of_le hV (Nat.le_refl _) (Bp_pos i)
  obtain ⟨_, r2, r3⟩ := hR
  rw [Nat.mod_eq_of_lt hV] at r2
  have d1 := Nat.mod_add_div t (B ^ (i + n))
  have d2 := Nat.mod_add_div t2 (B ^ (i + n))
  rw [r3] at d2
  have eg : g * (V * B ^ i) = (g - 1) * (V * B ^ i) + V * B ^ i := by rw [← Nat.succ_mul]; congr 1; exact (Nat.succ_pred_eq_of_pos (Nat.lt_of_le_of_lt (Nat.zero_le _) hg0)).symm
  have ec : B ^ i * V = V * B ^ i := Nat.mul_comm _ _
  have := fits_zero (E := B ^ (i + n)) (r := t2 % B ^ (i + n)) (x := t0 % B ^ (i + 1 + n) % (V * B ^ i)) (d := c + w) (w := wd t0 (i + n) + c2) (Nat.mod_lt _ (Bp_pos _)) (by rw [Nat.mul_add (B ^ (i + n)) (wd t0 (i + n))]; omega) (by omega)
  omega
/-! ### square roots -/
theorem newton {a x : Nat} (hx : 0 < x) : a < ((x + a / x) / 2 + 1) * ((x + a / x) / 2 + 1) := by
  have h1 : a < x * (a / x + 1) := Nat.lt_mul_div_succ a hx
  generalize hy : a / x + 1 = y at *
  obtain ⟨k, hk⟩ : ∃ k, k = (x + a / x) / 2 + 1 := ⟨_, rfl⟩
  rw [← hk]
  have h2 : x + y ≤ 2 * k := by omega
  have h3 := Nat.mul_le_mul h2 h2
  have e1 : 2 * k * (2 * k) = 4 * (k * k) := by rw [Nat.mul_mul_mul_comm]
  have h4 : 4 * (x * y) ≤ (x + y) * (x + y) := by
    rcases Nat.le_total x y with h | h
    · obtain ⟨d, rfl⟩ := Nat.exists_eq_add_of_le h
      have : (x + (x + d)) * (x + (x + d)) = 4 * (x * (x + d)) + d * d := by
        simp only [Nat.mul_add, Nat.add_mul, Nat.mul_comm d x]; omega
      omega
    · obtain ⟨d, rfl⟩ := Nat.exists_eq_add_of_le h
      have : (y + d + y) * (y + d + y) = 4 * ((y + d) * y) + d * d := by
        simp only [Nat.mul_add, Nat.add_mul, Nat.mul_comm d y]; omega
      omega
  omega
/-- x is the square root, cut -/
def RootOf (a x : Nat) : Prop := x * x ≤ a ∧ a < (x + 1) * (x + 1)
theorem root_over {a x : Nat} (hx : 0 < x) (h : a < (x + 1) * (x + 1)) (hn : x ≤ (x + a / x) / 2) : RootOf a x := by
  refine ⟨?_, h⟩
  have : x ≤ a / x := by omega
  exact (Nat.le_div_iff_mul_le hx).1 this
theorem root_quot {a x : Nat} (hx : 0 < x) (h : a < (x + 1) * (x + 1)) : a / x ≤ x + 2 := by
  have : a < x * (x + 3) := by
    have e : (x + 1) * (x + 1) = x * x + x + x + 1 := by rw [Nat.mul_add, Nat.add_mul]; omega
    rw [Nat.mul_add]; omega
  have := (Nat.div_lt_iff_lt_mul hx).2 (by rwa [Nat.mul_comm] at this)
  omega
/-! ### divisors -/
/-- two numbers of Fibonacci's, one behind the other -/
def fibs : Nat → Nat × Nat
  | 0 => (0, 1)
  | n + 1 => ((fibs n).2, (fibs n).1 + (fibs n).2)
/-- behind k + 1 rests from (.., b0) on -/
def RestsW (b0 k a b : Nat) : Prop := b < a ∧ (fibs k).2 * a + (fibs k).1 * b ≤ b0
theorem RestsW.start {a b : Nat} (hb : 0 < b) : RestsW b 0 b (a % b) := ⟨Nat.mod_lt _ hb, by simp [fibs]⟩
theorem RestsW.next {b0 k a b : Nat} (h : RestsW b0 k a b) (hb : 0 < b) : RestsW b0 (k + 1) b (a % b) := by
  obtain ⟨h1, h2⟩ := h
  refine ⟨Nat.mod_lt _ hb, ?_⟩
  have hd : b + a % b ≤ a := by
    have h3 := Nat.mod_add_div a b
    have h4 : 1 ≤ a / b := (Nat.le_div_iff_mul_le hb).2 (by omega)
    have := Nat.mul_le_mul_left b h4
    omega
  have := Nat.mul_le_mul_left (fibs k).2 hd
  simp only [fibs]
  rw [Nat.add_mul]
  rw [Nat.mul_add] at this
  omega
theorem fib_big : M ≤ (fibs 998).2 := by
  unfold M
  rw [B_eq]
  decide +kernel
theorem RestsW.few {b0 k a b : Nat} (h : RestsW b0 k a b) (hb0 : b0 < M) : k < 998 := by
  apply Nat.lt_of_not_le; intro hc
  have mono : ∀ j, (fibs 998).2 ≤ (fibs (998 + j)).2 := by
    intro j
    induction j with
    | zero => exact Nat.le_refl _
    | succ j ih =>
      have : (fibs (998 + (j + 1))).2 = (fibs (998 + j)).1 + (fibs (998 + j)).2 := rfl
      omega
  obtain ⟨j, rfl⟩ := Nat.exists_eq_add_of_le hc
  obtain ⟨h1, h2⟩ := h
  have h3 := mono j
  have h4 := fib_big
  have h5 := Nat.mul_le_mul_left (fibs (998 + j)).2 (show 1 ≤ a by omega)
  generalize (fibs (998 + j)).2 = x at *
  generalize (fibs 998).2 = y at *
  omega
end QuotM

/- Shifts as products and quotients; what a division by many words begins with: plain mathematics, of no program. -/
namespace QuotM
open DigM WideM
theorem sh_left (a n : Nat) : shN a n = low (a * 2 ^ n) := by
  obtain ⟨e, he⟩ : ∃ e : Nat, e = 512 := ⟨_, rfl⟩
  apply ext_bits; intro i
  rw [shN_bit, low, M_two e he, Nat.testBit_mod_two_pow, ← Nat.shiftLeft_eq, Nat.testBit_shiftLeft, he]
  congr 1
  unfold bitZ
  by_cases h : n ≤ i
  · rw [decide_eq_true (show (0 : Int) ≤ (i : Int) - n by omega), decide_eq_true (show i ≥ n from h), show ((i : Int) - n).toNat = i - n by omega]
  · rw [decide_eq_false (show ¬ (0 : Int) ≤ (i : Int) - n by omega), decide_eq_false (show ¬ i ≥ n from h)]
    rfl
theorem sh_right {a : Nat} (ha : a < M) (n : Nat) : shN a (-(n : Int)) = a / 2 ^ n := by
  apply ext_bits; intro i
  rw [shN_bit, Nat.testBit_div_two_pow]
  unfold bitZ
  rw [decide_eq_true (show (0 : Int) ≤ (i : Int) - -(n : Int) by omega), Bool.true_and, show ((i : Int) - -(n : Int)).toNat = i + n by omega]
  by_cases h : i < 512
  · rw [decide_eq_true h, Bool.true_and]
  · rw [decide_eq_false h, Bool.false_and, bit_big ha (by omega)]
theorem wd_mod (s n i : Nat) : wd (s % B ^ n) i = if i < n then wd s i else 0 := by
  by_cases h : i < n
  · rw [if_pos h]
    obtain ⟨j, rfl⟩ : ∃ j, n = i + 1 + j := ⟨n - i - 1, by omega⟩
    have h2 := mod_step s i
    have h3 := mod_step (s % B ^ (i + 1 + j)) i
    have e1 : s % B ^ (i + 1 + j) % B ^ (i + 1) = s % B ^ (i + 1) := Nat.mod_mod_of_dvd _ ⟨B ^ j, Nat.pow_add ..⟩
    have e2 : s % B ^ (i + 1 + j) % B ^ i = s % B ^ i := Nat.mod_mod_of_dvd _ ⟨B ^ (1 + j), by rw [← Nat.pow_add]; congr 1; omega⟩
    rw [e1, e2, h2] at h3
    exact (Nat.eq_of_mul_eq_mul_left (Bp_pos i) (by omega)).symm
  · rw [if_neg h]
    exact wd_zero_of_lt (Nat.mod_lt _ (Bp_pos n)) (by omega)
/-! ### a shifted number, and the word that goes beyond -/
theorem shifted_is {a k : Nat} (ha : a < M) (hk : k < 64) : put (low (a * 2 ^ k)) 8 (wd (shN a ((k : Int) - 512)) 0) = a * 2 ^ k := by
  obtain ⟨e, he⟩ : ∃ e : Nat, e = 512 := ⟨_, rfl⟩
  have e1 : (k : Int) - 512 = -((512 - k : Nat) : Int) := by omega
  have hM : M = 2 ^ (512 - k) * 2 ^ k := by rw [M_two e he, ← Nat.pow_add]; congr 1; omega
  have h2 : a / 2 ^ (512 - k) < 2 ^ k := Nat.div_lt_of_lt_mul (by rw [← hM]; exact ha)
  have h3 : 2 ^ k < B := by rw [B_two]; exact Nat.pow_lt_pow_right (by decide) hk
  rw [e1, sh_right ha, put_small (low_lt _)]
  have h4 : wd (a / 2 ^ (512 - k)) 0 = a / 2 ^ (512 - k) := by unfold wd; simp; exact Nat.mod_eq_of_lt (by omega)
  rw [h4]
  have h5 : a * 2 ^ k / M = a / 2 ^ (512 - k) := by rw [hM, Nat.mul_div_mul_right _ _ (Nat.two_pow_pos k)]
  rw [← h5]
  exact Nat.mod_add_div _ _
/-! ### the number that divides, shifted till its highest bit is its highest word's -/
def Top (b n k : Nat) : Prop := k < 64 ∧ b * 2 ^ k < B ^ n ∧ B ^ n ≤ 2 * (b * 2 ^ k)
theorem top_of {b n : Nat} (hb : 0 < b) (h1 : bl b ≤ 64 * n) (h2 : 64 * n < bl b + 64) : Top b n (64 * n - bl b) := by
  obtain ⟨g1, g2⟩ := bl_BL b
  have hbl : 0 < bl b := by
    apply Nat.pos_of_ne_zero; intro h0
    rw [h0] at g1; simp at g1; omega
  have g3 := g2 hbl
  refine ⟨by omega, ?_, ?_⟩ <;> rw [Bp_two]
  · have := Nat.mul_lt_mul_of_lt_of_le g1 (Nat.le_refl (2 ^ (64 * n - bl b))) (Nat.two_pow_pos _)
    rw [← Nat.pow_add] at this
    rwa [show bl b + (64 * n - bl b) = 64 * n by omega] at this
  · have := Nat.mul_le_mul_right (2 ^ (64 * n - bl b)) g3
    rw [← Nat.pow_add] at this
    have e : 2 ^ (64 * n) = 2 * 2 ^ (bl b - 1 + (64 * n - bl b)) := by rw [← Nat.pow_succ']; congr 1; omega
    omega
theorem Top.word {b n k : Nat} (h : Top b (n + 1) k) : B ≤ 2 * wd (b * 2 ^ k) n := by
  obtain ⟨_, h1, h2⟩ := h
  generalize b * 2 ^ k = V at *
  have e : V = V % B ^ n + B ^ n * wd V n := by rw [← mod_step, Nat.mod_eq_of_lt h1]
  have hm := Nat.mod_lt V (Bp_pos n)
  apply Nat.le_of_not_lt; intro hc
  have hB : B = 2 * 9223372036854775808 := by rw [B_eq]
  have h3 := Nat.mul_le_mul_left (B ^ n) (show 2 * (wd V n + 1) ≤ B by omega)
  rw [show B ^ n * B = B ^ (n + 1) from (Nat.pow_succ ..).symm] at h3
  have e2 : B ^ n * (2 * (wd V n + 1)) = 2 * (B ^ n * wd V n) + 2 * B ^ n := by
    rw [Nat.mul_left_comm, Nat.mul_add, Nat.mul_add, Nat.mul_one]
  omega
theorem Top.start {a b n k : Nat} (h : Top b n k) (ha : a < M) (hn : n ≤ 9) : ManyW (a * 2 ^ k) (b * 2 ^ k) n (9 - n) 0 (a * 2 ^ k) := by
  obtain ⟨h0, h1, h2⟩ := h
  have hk : 2 * 2 ^ k ≤ B := by rw [B_two, ← Nat.pow_succ']; exact Nat.pow_le_pow_right (by decide) (by omega)
  have hA : a * 2 ^ k < M * 2 ^ k := Nat.mul_lt_mul_of_lt_of_le ha (Nat.le_refl _) (Nat.two_pow_pos k)
  have h9 : M * (2 * 2 ^ k) ≤ B ^ 9 := by
    have := Nat.mul_le_mul_left M hk
    exact this
  have h3 := Nat.mul_le_mul_right (B ^ (9 - n)) h2
  rw [← Nat.pow_add, show n + (9 - n) = 9 by omega, Nat.mul_assoc] at h3
  rw [Nat.mul_left_comm] at h9
  refine ManyW.start ?_ ?_ (by omega)
  · omega
  · have := Nat.two_pow_pos k
    omega
theorem Top.over {a b n k s t : Nat} (hM : ManyW (a * 2 ^ k) (b * 2 ^ k) n 0 s t) : s = a / b ∧ t % B ^ n = a % b * 2 ^ k := by
  obtain ⟨h1, h2⟩ := hM.over
  rw [h1, h2, Nat.mul_div_mul_right _ _ (Nat.two_pow_pos k), Nat.mul_mod_mul_right]
  exact ⟨rfl, rfl⟩
theorem back_right {r k : Nat} (h : r * 2 ^ k < M) : shN (r * 2 ^ k) (-(k : Int)) = r := by
  rw [sh_right h, Nat.mul_div_cancel _ (Nat.two_pow_pos k)]
end QuotM

/- strconv.FormatUint at base 10: a contract over the translation. -/
namespace Go.Proofs.YtacicfmalhhceaaGreatDoor.FmtW
open Go.RowKit Go.Sort Go.Lib
/-- the library's table of powers of ten holds what its initialiser lays -/
def Tab (w : World) : Prop := Lib.TabIs Tryz.prog w "internal/strconv.uint64pow10" .u64 Lib.pow10Tab
theorem Tab.later {w w' : World} {B : Nat} (h : Tab w) (hb : Below B w w') (hB : w.heap.size ≤ B) : Tab w' := by
  have h' := h
  unfold Tab Lib.TabIs at h ⊢
  have hg : Tryz.prog.globalNamed "internal/strconv.uint64pow10" = some 2 := by kernel_rfl
  refine var?_below hb hg ?_ h
  unfold World.var? at h
  rw [hg] at h
  simp only [Option.bind_some] at h
  apply Nat.lt_of_not_le; intro hc
  rw [Array.getElem?_eq_none (by omega)] at h
  exact absurd h (by simp)
def TxtU (u : Nat) (w : World) (e : Ending) (w' : World) : Prop := e = .returned (.string ⟨(decDigits u).toArray⟩) ∧ Below w.heap.size w w'
theorem below_grew (w : World) (k : Nat) (os : Array Obj) : Below w.heap.size w (Sort.grow (w.drewN k) os) :=
  ⟨rfl, rfl, rfl, by rw [Sort.size_grow]; exact Nat.le_add_right _ _, fun j hj => Sort.heap_grow_old (w.drewN k) os hj⟩
theorem fin_row (w : World) (o : Obj) (dk : Array UInt8) (k : Nat) : Below w.heap.size w ((putRow (fun (b : UInt8) => Value.int .u8 (b.toNat : Int)) (w.alloc o) w.heap.size 0 dk).drewN k) := by
  rw [alloc_eq_grow]
  obtain ⟨os', _, e⟩ := putRow_grow_new (fun (b : UInt8) => Value.int .u8 (b.toNat : Int)) w #[o] w.heap.size 0 dk (Nat.le_refl _)
  rw [e]
  exact below_grew w k os'
theorem fmt10_small (u : Nat) (w : World) (hu : u < 100) : Calls Tryz.prog 118 #[.int .u64 u, .int .i64 10] w (TxtU u w) := by
  go_enter Tryz.func118, Tryz.ntmps118
  go_wp2_with (fail)
  refine (Tryz.internal_strconv_small u hu _).mono ?_
  rintro e w' ⟨rfl, rfl⟩
  go_wp2_with (fail)
  go_ret
  exact ⟨rfl, Below.refl _ _⟩
set_option maxHeartbeats 1600000 in
theorem fmt10_big (u : Nat) (w : World) (h100 : 100 ≤ u) (hu64 : u < 18446744073709551616) (ht : Tab w) : Calls Tryz.prog 118 #[.int .u64 u, .int .i64 10] w (TxtU u w) := by
  have hu1 : 1 ≤ u := by omega
  have hnd20 : Lib.nDigits u ≤ 20 := by have := Lib.numDigits_eq u hu1 hu64; split at this <;> omega
  have hal : Tryz.prog.arrayLen 173 = 24 := by kernel_rfl
  have hsl : ∀ W, (Instr.sliceAt 173 (.pointer (some ⟨w.heap.size, 0, none⟩)) none (some (.int .i64 (Lib.nDigits u : Int))) none).run Tryz.prog W = .ok (.slice (some ⟨w.heap.size, 0, none⟩) (Lib.nDigits u) 24) W := fun W => by
    rw [run_sliceAt_array_h W 173 ⟨w.heap.size, 0, none⟩ (by simp [Program.arrayLen, Program.elem, Tryz.underlying173]) .i64 (Lib.nDigits u : Int) (by omega) (by rw [hal]; omega)]
    go_simp
  have hH0 := Lib.holds_zero0 w 173 (Lib.nDigits u) (by omega)
  have hfmt := Tryz.internal_strconv_formatBase10 w.heap.size 0 24 u (Array.replicate (Lib.nDigits u) 0) (w.alloc (.cells Lib.zeros24 173)) hH0 (by rw [Array.size_replicate]; exact Lib.lt_pow_nDigits u) hu64 (by rw [Array.size_replicate]; omega)
  rw [Array.size_replicate] at hfmt
  have HH0 := Lib.hid hH0
  have HT := Lib.hid ht
  clear hH0 hal ht
  go_enter Tryz.func118, Tryz.ntmps118
  go_wp2_with (fail)
  refine (Tryz.internal_strconv_numDigits u hu1 hu64 _ (Lib.tabIs_alloc HT.out _)).mono ?_
  rintro e w' ⟨rfl, rfl⟩
  go_wp2_with (fail)
  refine hfmt.mono ?_
  rintro e w' ⟨rfl, k, v', dk, rfl, hF⟩
  have hcv : (convert 162 9 (.slice (some ⟨w.heap.size, 0, none⟩) (Lib.nDigits u) 24)).run Tryz.prog ((putRow (fun (b : UInt8) => Value.int .u8 (b.toNat : Int)) (w.alloc (.cells Lib.zeros24 173)) w.heap.size 0 dk).drewN k) = .ok (.string ⟨(Lib.decDigits u).toArray⟩) ((putRow (fun (b : UInt8) => Value.int .u8 (b.toNat : Int)) (w.alloc (.cells Lib.zeros24 173)) w.heap.size 0 dk).drewN k) := by
    have h := run_convert_bytes_back (P := Tryz.prog) ((putRow (fun (b : UInt8) => Value.int .u8 (b.toNat : Int)) (w.alloc (.cells Lib.zeros24 173)) w.heap.size 0 dk).drewN k) 162 9 5 ⟨w.heap.size, 0, none⟩ 24 (Lib.decDigits u) Tryz.underlying162 Tryz.underlying5 Tryz.underlying9 (fun j hj => by
      rw [Lib.row_is_numeral hF j hj, Lib.add_plain, World.cell?_drewN]
      exact cell?_putRow (fun (b : UInt8) => Value.int .u8 (b.toNat : Int)) _ w.heap.size 0 _ dk HH0.out (by rw [hF.size, Array.size_replicate]) j (by rw [hF.size]; rw [Lib.decDigits_length] at hj; exact hj))
    rw [Lib.decDigits_length] at h
    exact h
  have hb := fin_row w (.cells Lib.zeros24 173) dk k
  go_wp2_with (fail)
  go_ret
  exact ⟨rfl, hb⟩
theorem fmt_any (u : Nat) (w : World) (hu64 : Hid (u < 18446744073709551616)) (ht : Tab w) : Calls Tryz.prog 78 #[.int .u64 u, .int .i64 10] w (TxtU u w) := by
  have F : Calls Tryz.prog 118 #[.int .u64 u, .int .i64 10] w (TxtU u w) := by
    by_cases h : u < 100
    · exact fmt10_small u w h
    · exact fmt10_big u w (by omega) hu64.out ht
  clear ht
  go_enter Tryz.func78, Tryz.ntmps78
  go_wp2_with (fail)
  refine F.mono ?_
  rintro e w' ⟨rfl, hb⟩
  go_wp2_with (fail)
  go_ret
  exact ⟨rfl, hb⟩
end Go.Proofs.YtacicfmalhhceaaGreatDoor.FmtW

/- Numbers' digits in groups: plain mathematics, of no program. -/
namespace DecM
open Go.Lib
theorem dec_small {n : Nat} (h : n < 10) : decDigits n = [UInt8.ofNat (48 + n)] := by rw [decDigits, dif_pos h]
theorem dec_big {n : Nat} (h : 10 ≤ n) : decDigits n = decDigits (n / 10) ++ [UInt8.ofNat (48 + n % 10)] := by rw [decDigits, dif_neg (by omega)]
theorem nDig_le : ∀ (k u : Nat), u < 10 ^ (k + 1) → nDigits u ≤ k + 1
  | 0, u, h => by rw [nDigits_small (by simpa using h)]; exact Nat.le_refl _
  | k + 1, u, h => by
    by_cases h10 : u < 10
    · rw [nDigits_small h10]; omega
    · rw [nDigits_big h10]
      have := nDig_le k (u / 10) (by rw [Nat.pow_succ] at h; omega)
      omega
/-- r's digits, with noughts ahead to k places -/
def pad (k r : Nat) : List UInt8 := List.replicate (k - nDigits r) 48 ++ decDigits r
theorem pad_length {k r : Nat} (h : nDigits r ≤ k) : (pad k r).length = k := by
  unfold pad; rw [List.length_append, List.length_replicate, decDigits_length]; omega
theorem pad_one {r : Nat} (h : r < 10) : pad 1 r = [UInt8.ofNat (48 + r)] := by
  unfold pad; rw [nDigits_small h, dec_small h]; rfl
theorem pad_step {k r : Nat} (hk : 1 ≤ k) : pad (k + 1) r = pad k (r / 10) ++ [UInt8.ofNat (48 + r % 10)] := by
  unfold pad
  by_cases h : r < 10
  · have e : r / 10 = 0 := by omega
    have e2 : r % 10 = r := by omega
    rw [e, e2, nDigits_small h, nDigits_small (show 0 < 10 by decide), dec_small h, dec_small (show 0 < 10 by decide)]
    have e3 : k + 1 - 1 = (k - 1) + 1 := by omega
    rw [e3, List.replicate_succ']
    rfl
  · rw [nDigits_big h, dec_big (by omega), List.append_assoc]
    have e3 : k + 1 - (nDigits (r / 10) + 1) = k - nDigits (r / 10) := by omega
    rw [e3]
theorem dec_group : ∀ (k n : Nat), 10 ^ (k + 1) ≤ n → decDigits n = decDigits (n / 10 ^ (k + 1)) ++ pad (k + 1) (n % 10 ^ (k + 1))
  | 0, n, h => by
    rw [Nat.zero_add, Nat.pow_one] at *
    rw [dec_big h, pad_one (by omega)]
  | k + 1, n, h => by
    have hp := Nat.pow_pos (n := k + 1) (show 0 < 10 by decide)
    have e : 10 ^ (k + 1 + 1) = 10 * 10 ^ (k + 1) := by rw [Nat.pow_succ, Nat.mul_comm]
    have h10 : 10 ≤ n := by omega
    have hd : 10 ^ (k + 1) ≤ n / 10 := by omega
    rw [dec_big h10, dec_group k (n / 10) hd, e, pad_step (k := k + 1) (r := n % (10 * 10 ^ (k + 1))) (by omega), ← Nat.div_div_eq_div_mul, List.append_assoc]
    have e1 : n % (10 * 10 ^ (k + 1)) / 10 = n / 10 % 10 ^ (k + 1) := by rw [Nat.mod_mul_right_div_self]
    have e2 : n % (10 * 10 ^ (k + 1)) % 10 = n % 10 := Nat.mod_mul_right_mod n 10 _
    rw [e1, e2]
theorem repeat48 : ∀ c, repeatL [48] c = List.replicate c 48
  | 0 => rfl
  | c + 1 => by rw [repeatL, repeat48 c]; rfl
/-- texts, the last one first -/
def back (gs : List (List UInt8)) : List UInt8 := gs.reverse.flatten
theorem back_snoc (gs : List (List UInt8)) (g : List UInt8) : back (gs ++ [g]) = g ++ back gs := by simp [back]
theorem back_cons (gs : List (List UInt8)) (g : List UInt8) : back (g :: gs) = back gs ++ g := by
  unfold back; rw [List.reverse_cons, List.flatten_append, List.flatten_cons, List.flatten_nil, List.append_nil]
theorem back_drop {gs : List (List UInt8)} {m : Nat} (h : m < gs.length) : back (gs.drop m) = back (gs.drop (m + 1)) ++ gs[m] := by
  rw [List.drop_eq_getElem_cons h, back_cons]
theorem back_none {gs : List (List UInt8)} : back (gs.drop gs.length) = [] := by simp [back]
theorem back_length (k : Nat) : ∀ (gs : List (List UInt8)), (∀ g ∈ gs, g.length ≤ k) → (back gs).length ≤ k * gs.length
  | [], _ => by simp [back]
  | g :: gs, h => by
    rw [back_cons, List.length_append, List.length_cons, Nat.mul_add]
    have h1 := back_length k gs (fun x hx => h x (List.mem_cons_of_mem _ hx))
    have h2 := h g (List.mem_cons_self ..)
    omega
end DecM

/- package quot: division by a word, and what it is made of: contracts over the translation. -/
namespace Go.Proofs.YtacicfmalhhceaaGreatDoor.QuotW
open Go.RowKit
open DigM WideM WideV KM DigW WideW QuotM
/-- how many words a has -/
def wn (a : Nat) : Nat := (bl a + 63) / 64
theorem bl_le {a : Nat} (ha : a < M) : bl a ≤ 512 := by
  obtain ⟨e, he⟩ : ∃ e : Nat, e = 512 := ⟨_, rfl⟩
  have h := (bl_BL a).2
  rw [M_two e he] at ha
  apply Nat.le_of_not_lt; intro hc
  have h1 := h (by omega)
  have h2 : 2 ^ e ≤ 2 ^ (bl a - 1) := Nat.pow_le_pow_right (by decide) (by omega)
  omega
theorem wn_le {a : Nat} (ha : a < M) : wn a ≤ 8 := by have := bl_le ha; unfold wn; omega
theorem lt_wn (a : Nat) : a < B ^ wn a := by
  have h := (bl_BL a).1
  rw [Bp_two]
  exact Nat.lt_of_lt_of_le h (Nat.pow_le_pow_right (by decide) (by unfold wn; omega))
theorem wn_small {a : Nat} (h : wn a ≤ 1) : a < B := by
  have h1 := lt_wn a
  have h2 : B ^ wn a ≤ B ^ 1 := Nat.pow_le_pow_right B_pos h
  rw [Nat.pow_one] at h2; omega
theorem wn_big {a : Nat} (h : 1 < wn a) : B ≤ a := by
  have h1 := (bl_BL a).2 (by unfold wn at h; omega)
  rw [B_two]
  exact Nat.le_trans (Nat.pow_le_pow_right (by decide) (by unfold wn at h; omega)) h1
theorem wd_self {a : Nat} (h : a < B) : wd a 0 = a := by unfold wd; simp [Nat.mod_eq_of_lt h]
theorem wordsOf_any (a : Nat) (ha : Hid (a < M)) (w : World) : Calls Tryz.prog 59 #[wv a] w (Ret (.int .i64 (wn a : Nat)) w) := by
  have hle := bl_le ha.out
  refine enter fun u => ?_
  go_enter Tryz.func59, Tryz.ntmps59
  go_wp2_with (first | ((with_reducible apply list_box); exact rfl; intro _ _) | ((with_reducible apply lst_load); exact rfl; infer_instance; exact rowW; exact cells_size _ _))
  refine (wlen8_any a ha _).mono ?_
  rintro e w' ⟨rfl, hb⟩
  go_wp2_with (fail)
  go_ret
  exact ⟨ret_int (by unfold wn; omega), (KW.later _ hb).below⟩
/-! ### division by a word -/
theorem div_fix (r x y : Nat) (hr : r < y) (hx : x < B) (hy : y < B) : ∃ q o : Nat, Hid (q < B ∧ o < y ∧ q * y + o = r * B + x) ∧
    ∀ w, Calls Tryz.prog 95 #[.int .u64 r, .int .u64 x, .int .u64 y] w (fun e w' => e = .returned (.tuple #[.int .u64 q, .int .u64 o, .bool true]) ∧ ∃ n, w' = w.drewN n) := by
  rw [B_eq] at *
  refine ⟨(r * 18446744073709551616 + x) / y, (r * 18446744073709551616 + x) % y, Lib.hid ⟨?_, Nat.mod_lt _ (by omega), ?_⟩, fun w => ?_⟩
  · apply Nat.div_lt_of_lt_mul
    have := Nat.mul_le_mul_right 18446744073709551616 (show r + 1 ≤ y from hr)
    omega
  · rw [Nat.mul_comm]; exact Nat.div_add_mod _ _
  · refine (div_yes r x y w hr (Lib.hid hx) (Lib.hid hy)).mono ?_
    rintro e w' ⟨q, o, rfl, hs, n, rfl⟩
    obtain ⟨h1, h2, h3⟩ := hs.out
    have e1 : (r * 18446744073709551616 + x) / y = q := by
      rw [← h3, Nat.mul_comm q y, Nat.mul_add_div (by omega), Nat.div_eq_of_lt h2]; omega
    have e2 : (r * 18446744073709551616 + x) % y = o := by
      rw [← h3, Nat.mul_comm q y, Nat.mul_add_mod, Nat.mod_eq_of_lt h2]
    rw [e1, e2]
    exact ⟨rfl, n, rfl⟩
theorem drewN_go {W : World} {L : List Ent} (u : KW W L) (n : Nat) : ∃ u' : KW W L, u.w.drewN n = u'.w := by
  exact u.go (below_drewN (Below.refl _ _) n)
def WoRel (a y : Nat) (w : World) (g2 g4 : Nat) (r i : Value) (wr : World) : Prop :=
  ∃ (m n s : Nat) (u : KW w [⟨g4, cells 8 s, 24⟩, ⟨g2, cells 8 a, 24⟩]), i = .int .i64 ((m : Int) - 1) ∧ m ≤ 8 ∧ r = .int .u64 n ∧ wr = u.w ∧ Hid (WordQ a y m s n)
set_option maxHeartbeats 800000 in
theorem overWord_any (a y : Nat) (ha : Hid (a < M)) (hy : Hid (0 < y ∧ y < B)) (w : World) : Calls Tryz.prog 61 #[wv a, .int .u64 y] w (Ret (.tuple #[wv (a / y), .int .u64 (a % y : Nat)]) w) := by
  unfold wv
  refine enter fun u => ?_
  go_enter Tryz.func61, Tryz.ntmps61
  go_wp2_with (first | ((with_reducible apply list_box); exact rfl; intro _ _) | ((with_reducible apply list_alloc); exact zeroW; intro _ _))
  rename_i g2 u2 g4 u4 _ _
  go_loopw [5, 6] (WoRel a y w g2 g4) (fun _ i _ => (intOf i + 1).toNat)
  case atStart => exact ⟨8, 0, 0, u4, rfl, by decide, rfl, rfl, Lib.hid (WordQ.start ha.out)⟩
  case round =>
    obtain ⟨m, n, s, u, rfl, hm, rfl, rfl, hS⟩ := hrel
    clear u2 u4
    cases m with
    | zero =>
      have HE := Lib.hid hS.out.over
      go_wp2_with (first | ((with_reducible apply lst_load); exact rfl; infer_instance; exact rowW; exact cells_size _ _) | ((with_reducible apply lst_store); exact rfl; exact rfl; infer_instance; exact rowW; exact cells_size _ _; exact cells_size _ _; exact cells_one _ _; intro _))
      refine body_cell_tmp Tryz.results61 rfl rfl rowW (cells_size _ _) ⟨?_, KW.below _⟩
      rw [HE.out.1, HE.out.2]
      rfl
    | succ k =>
      have ek : ((k + 1 : Nat) : Int) - 1 = k := by omega
      rw [ek]
      clear ek
      have hk8 : k < 8 := by omega
      obtain ⟨x, hx⟩ : ∃ x, Hid (wd a k = x) := ⟨_, Lib.hid rfl⟩
      have hxb : x < B := by rw [← hx.out]; exact wd_lt a k
      have hc1 := cells_at hk8 hx.out
      obtain ⟨q, o, hq, hF⟩ := div_fix n x y (hS.out.lt hy.out.1) hxb hy.out.2
      have hqb : q < B := hq.out.1
      have HN : Hid (WordQ a y k (put s k q) o) := Lib.hid (hS.out.next hy.out.1 hq.out.2.1 (by rw [hx.out]; exact hq.out.2.2))
      have hk8i : (k : Int) < 8 := by omega
      have hk0i : (0 : Int) ≤ k := by omega
      clear hxb
      go_wp2_with (fail)
      refine (hF _).mono ?_
      rintro e w' ⟨rfl, n', rfl⟩
      obtain ⟨u1, hu1⟩ := drewN_go u n'
      rw [hu1]
      obtain ⟨u3, hu3⟩ := u1.ex_put (j := k) (v := .int .u64 (q : Nat)) (cells_set hqb)
      have HU := Lib.hid hu3
      clear hu3 hqb
      go_wp2_with (fail)
      go_roundw
      case rel => exact ⟨k, o, _, u3, by go_num, by omega, rfl, HU.out, HN⟩
      case measure => simp [intOf]
end Go.Proofs.YtacicfmalhhceaaGreatDoor.QuotW

/- package quot: divisors of words, a guess: contracts over the translation. -/
namespace Go.Proofs.YtacicfmalhhceaaGreatDoor.QuotW
open Go.RowKit
open DigM WideM WideV KM DigW WideW QuotM
def GRel (x y : Nat) (w : World) (a b : Value) (wr : World) : Prop :=
  ∃ (n m : Nat) (u : KW w []), a = .int .u64 n ∧ b = .int .u64 m ∧ wr = u.w ∧ Hid (n < B ∧ m < B ∧ Nat.gcd n m = Nat.gcd x y)
set_option maxHeartbeats 800000 in
theorem gcdWords_any (x y : Nat) (hx : x < B) (hy : y < B) (w : World) : Calls Tryz.prog 89 #[.int .u64 x, .int .u64 y] w (Ret (.int .u64 (Nat.gcd x y : Nat)) w) := by
  have H0 : Hid (x < B ∧ y < B) := Lib.hid ⟨hx, hy⟩
  clear hx hy
  refine enter fun u => ?_
  go_enter Tryz.func89, Tryz.ntmps89
  go_wp2_with (fail)
  go_loopw [0, 1] (GRel x y w) (fun _ b _ => (intOf b).toNat)
  case atStart => exact ⟨x, y, u, rfl, rfl, rfl, Lib.hid ⟨H0.out.1, H0.out.2, rfl⟩⟩
  case round =>
    clear u
    obtain ⟨n, m, u, rfl, rfl, rfl, hG⟩ := hrel
    by_cases h0 : m = 0
    · subst h0
      have HE : Hid (n = Nat.gcd x y) := Lib.hid (by have := hG.out.2.2; rw [Nat.gcd_zero_right] at this; exact this)
      go_wp2_with (fail)
      go_ret
      exact ⟨ret_int (by rw [← HE.out]), KW.below _⟩
    · have hq := bn_yes (show ¬ (m : Int) = 0 from by omega)
      have hm0 : ¬ (m : Int) = 0 := by omega
      have hlt : n % m < m := Nat.mod_lt _ (by omega)
      have HN : Hid (m < B ∧ n % m < B ∧ Nat.gcd m (n % m) = Nat.gcd x y) := Lib.hid ⟨hG.out.2.1, by have := hG.out.2.1; omega, by rw [← hG.out.2.2, Nat.gcd_comm n m, Nat.gcd_rec m n, Nat.gcd_comm]⟩
      have hmod : (n : Int).tmod m = ((n % m : Nat) : Int) := by rw [Int.tmod_eq_emod_of_nonneg (by omega)]; rfl
      have hnb : (n : Int) ≤ 18446744073709551615 := by have := hG.out.1; rw [B_eq] at this; omega
      have hmb : (m : Int) ≤ 18446744073709551615 := by have := hG.out.2.1; rw [B_eq] at this; omega
      clear h0
      go_wp2_with (fail)
      refine region (by kernel_rfl) (by kernel_rfl) fun _ => ?_
      repeat (go_big_quiet_step (fail))
      refine wpQuiet_nil ?_
      rintro _ ⟨u', rfl⟩
      go_wp2_with (fail)
      go_roundw
      case rel => exact ⟨m, n % m, u', rfl, vint (by first | exact hmod | rfl | omega), rfl, HN⟩
      case measure => simp [intOf]; omega
def gtB (a b h l : Nat) : Bool := decide (h * B + l < a * b)
theorem moreThan_any (a b h l : Nat) (ha : a < B) (hb : b < B) (hl : l < B) (w : World) : Calls Tryz.prog 129 #[.int .u64 a, .int .u64 b, .int .u64 h, .int .u64 l] w (fun e w' => e = .returned (.bool (gtB a b h l)) ∧ w = w') := by
  obtain ⟨h0, l0, H0, F0⟩ := mul_fix a b ha hb
  rcases Nat.lt_trichotomy h0 h with hc | hc | hc
  · have HE : Hid (gtB a b h l = false) := Lib.hid (by
      unfold gtB; rw [← H0.out.2.2]
      have := Nat.mul_le_mul_right B (show h0 + 1 ≤ h from hc)
      have := H0.out.2.1
      rw [Nat.add_mul] at *
      simp; omega)
    have hi1 : decide (h < h0) = false := by simp; omega
    have hi2 := bq_no (show ¬ (h0 : Int) = h from by omega)
    clear ha hb hl hc
    go_enter Tryz.func129, Tryz.ntmps129
    go_wp2_with (fail)
    refine (F0 _).mono ?_
    rintro e w' ⟨rfl, rfl⟩
    go_wp2_with (fail)
    go_ret
    exact ⟨ret_bool (by rw [HE.out]), rfl⟩
  · subst hc
    have HE : Hid (gtB a b h0 l = decide (l < l0)) := Lib.hid (by
      unfold gtB; rw [← H0.out.2.2]
      exact decide_eq_decide.2 (by omega))
    clear ha hb hl
    go_enter Tryz.func129, Tryz.ntmps129
    go_wp2_with (fail)
    refine (F0 _).mono ?_
    rintro e w' ⟨rfl, rfl⟩
    go_wp2_with (fail)
    go_ret
    exact ⟨ret_bool (by rw [HE.out]), rfl⟩
  · have HE : Hid (gtB a b h l = true) := Lib.hid (by
      unfold gtB; rw [← H0.out.2.2]
      have := Nat.mul_le_mul_right B (show h + 1 ≤ h0 from hc)
      rw [Nat.add_mul] at this
      exact decide_eq_true (by omega))
    have hi1 : decide (h < h0) = true := by simp; omega
    clear ha hb hl hc
    go_enter Tryz.func129, Tryz.ntmps129
    go_wp2_with (fail)
    refine (F0 _).mono ?_
    rintro e w' ⟨rfl, rfl⟩
    go_wp2_with (fail)
    go_ret
    exact ⟨ret_bool (by rw [HE.out]), rfl⟩
/-- a guess: what it answers, and that it only reads -/
def Guesses (hi mid low by' next : Nat) : Prop := ∃ g : Nat, Hid (GuessOf hi mid low by' next g) ∧
  ∀ w, Calls Tryz.prog 92 #[.int .u64 hi, .int .u64 mid, .int .u64 low, .int .u64 by', .int .u64 next] w (fun e w' => e = .returned (.int .u64 (g : Nat)) ∧ ∃ n, w' = w.drewN n)
set_option maxHeartbeats 800000 in
theorem guess_low (hi mid low by' next : Nat) (hlt : hi < by') (hm : mid < B) (hl : low < B) (hb : by' < B) (hn : next < B) : Guesses hi mid low by' next := by
  obtain ⟨q, o, HQ, F⟩ := div_fix hi mid by' hlt hm hb
  have FM := fun w => moreThan_any q next o low HQ.out.1 hn hl w
  have HB := Lib.hid hb
  clear hm hl hb hn hlt
  by_cases ht : gtB q next o low = true
  · have HT := Lib.hid ht
    rw [ht] at FM
    have hq1 : 0 < q := by
      apply Nat.pos_of_ne_zero; intro h0
      have := of_decide_eq_true ht
      rw [h0, Nat.zero_mul] at this; omega
    have hqb : (q : Int) ≤ 18446744073709551615 := by have := HQ.out.1; rw [B_eq] at this; omega
    obtain ⟨g, rfl⟩ : ∃ g, q = g + 1 := ⟨q - 1, by omega⟩
    refine ⟨g, Lib.hid ⟨g + 1, o, HQ.out.1, HQ.out.2.2, Or.inl HQ.out.2.1, Or.inr ⟨of_decide_eq_true HT.out, rfl⟩⟩, fun w => ?_⟩
    clear ht
    go_enter Tryz.func92, Tryz.ntmps92
    go_wp2_with (fail)
    refine (F _).mono ?_
    rintro e w' ⟨rfl, n, rfl⟩
    go_wp2_with (fail)
    refine (FM _).mono ?_
    rintro e w' ⟨rfl, rfl⟩
    go_wp2_with (fail)
    go_ret
    exact ⟨ret_int (by omega), n, rfl⟩
  · have hf : gtB q next o low = false := by simpa using ht
    have HT := Lib.hid ht
    rw [hf] at FM
    refine ⟨q, Lib.hid ⟨q, o, HQ.out.1, HQ.out.2.2, Or.inl HQ.out.2.1, Or.inl ⟨?_, rfl⟩⟩, fun w => ?_⟩
    · have := HT.out
      unfold gtB at this
      rw [decide_eq_true_eq] at this; omega
    clear ht hf
    go_enter Tryz.func92, Tryz.ntmps92
    go_wp2_with (fail)
    refine (F _).mono ?_
    rintro e w' ⟨rfl, n, rfl⟩
    go_wp2_with (fail)
    refine (FM _).mono ?_
    rintro e w' ⟨rfl, rfl⟩
    go_wp2_with (fail)
    go_ret
    exact ⟨rfl, n, rfl⟩
theorem div_no' (a b : Nat) (w : World) : Calls Tryz.prog 95 #[.int .u64 a, .int .u64 b, .int .u64 a] w (fun e w' => e = .returned (.tuple #[.int .u64 0, .int .u64 0, .bool false]) ∧ w = w') := div_no a b a w (Nat.le_refl _)
set_option maxHeartbeats 800000 in
theorem guess_high (hi mid low next : Nat) (hm : mid < B) (hl : low < B) (hb : hi < B) (hn : next < B) : Guesses hi mid low hi next := by
  obtain ⟨r, c, HR, FA⟩ := add_fix mid hi 0 hm hb
  have F := div_no' hi mid
  have HT18 : Hid (18446744073709551615 + 1 = B) := Lib.hid (by rw [B_eq])
  have h18 : (18446744073709551615 : Nat) < B := by have := HT18.out; omega
  have hr := HR.out.1
  have hsum : 18446744073709551615 * hi + (r + B * c) = hi * B + mid := by
    have h := HR.out.2.2
    rw [show cn 0 = 0 from rfl] at h
    have e : hi * B = hi * 18446744073709551615 + hi := by rw [← HT18.out, Nat.mul_add, Nat.mul_one]
    rw [e, Nat.mul_comm]; omega
  have HSUM := Lib.hid hsum
  have H18 := Lib.hid h18
  clear hsum
  by_cases hc : c = 0
  · subst hc
    have FM : ∀ w, Calls Tryz.prog 129 #[.int .u64 18446744073709551615, .int .u64 next, .int .u64 r, .int .u64 low] w (fun e w' => e = .returned (.bool (gtB 18446744073709551615 next r low)) ∧ w = w') := fun w => moreThan_any 18446744073709551615 next r low h18 hn hl w
    clear hm hl hb hn h18
    by_cases ht : gtB 18446744073709551615 next r low = true
    · have HT := Lib.hid ht
      rw [ht] at FM
      refine ⟨18446744073709551614, Lib.hid ⟨18446744073709551615, r, H18.out, by have := HSUM.out; omega, Or.inr HT18.out, Or.inr ⟨of_decide_eq_true HT.out, rfl⟩⟩, fun w => ?_⟩
      clear ht
      go_enter Tryz.func92, Tryz.ntmps92
      go_wp2_with (fail)
      refine (F _).mono ?_
      rintro e w' ⟨rfl, rfl⟩
      go_wp2_with (fail)
      refine (FA _).mono ?_
      rintro e w' ⟨rfl, rfl⟩
      go_wp2_with (fail)
      refine (FM _).mono ?_
      rintro e w' ⟨rfl, rfl⟩
      go_wp2_with (fail)
      go_ret
      exact ⟨rfl, 0, rfl⟩
    · have hf : gtB 18446744073709551615 next r low = false := by simpa using ht
      have HT := Lib.hid ht
      rw [hf] at FM
      refine ⟨18446744073709551615, Lib.hid ⟨18446744073709551615, r, H18.out, by have := HSUM.out; omega, Or.inr HT18.out, Or.inl ⟨?_, rfl⟩⟩, fun w => ?_⟩
      · have := HT.out
        unfold gtB at this
        rw [decide_eq_true_eq] at this; omega
      clear ht hf
      go_enter Tryz.func92, Tryz.ntmps92
      go_wp2_with (fail)
      refine (F _).mono ?_
      rintro e w' ⟨rfl, rfl⟩
      go_wp2_with (fail)
      refine (FA _).mono ?_
      rintro e w' ⟨rfl, rfl⟩
      go_wp2_with (fail)
      refine (FM _).mono ?_
      rintro e w' ⟨rfl, rfl⟩
      go_wp2_with (fail)
      go_ret
      exact ⟨rfl, 0, rfl⟩
  · obtain rfl : c = 1 := by have := HR.out.2.1; omega
    refine ⟨18446744073709551615, Lib.hid ⟨18446744073709551615, r + B, H18.out, by have := HSUM.out; omega, Or.inr HT18.out, Or.inl ⟨?_, rfl⟩⟩, fun w => ?_⟩
    · have h1 := Nat.mul_le_mul (Nat.le_of_lt H18.out) (Nat.le_of_lt hn)
      have h2 := Nat.mul_le_mul_right B (show B ≤ r + B by omega)
      omega
    clear hm hl hb hn h18 hc hr
    go_enter Tryz.func92, Tryz.ntmps92
    go_wp2_with (fail)
    refine (F _).mono ?_
    rintro e w' ⟨rfl, rfl⟩
    go_wp2_with (fail)
    refine (FA _).mono ?_
    rintro e w' ⟨rfl, rfl⟩
    go_wp2_with (fail)
    go_ret
    exact ⟨rfl, 0, rfl⟩
theorem guess_fix (hi mid low by' next : Nat) (hle : hi ≤ by') (hm : mid < B) (hl : low < B) (hb : by' < B) (hn : next < B) : Guesses hi mid low by' next := by
  rcases Nat.lt_or_ge hi by' with h | h
  · exact guess_low hi mid low by' next h hm hl hb hn
  · obtain rfl : hi = by' := by omega
    exact guess_high hi mid low next hm hl hb hn
end Go.Proofs.YtacicfmalhhceaaGreatDoor.QuotW

/- package quot: what is taken from what is left, and put back: contracts over the translation. -/
namespace Go.Proofs.YtacicfmalhhceaaGreatDoor.QuotW
open Go.RowKit
open DigM WideM WideV KM DigW WideW QuotM
def LeRel (g gb i n t v q : Nat) (T T' : TypeId) (W : World) (L : List Ent) (c b k : Value) (wr : World) : Prop :=
  ∃ (j c' b' t' : Nat) (u : KW W (⟨g, cells 9 t', T⟩ :: ⟨gb, cells 8 v, T'⟩ :: L)), k = .int .i64 j ∧ j ≤ n ∧ c = .int .u64 c' ∧ b = .int .u64 b' ∧ wr = u.w ∧ Hid (LessW t v q i j t' c' b' ∧ t' < B ^ 9)
def LessPost (g gb i n t v q : Nat) (T T' : TypeId) (W : World) (L : List Ent) (e : Ending) (w' : World) : Prop :=
  ∃ (c b x o t' : Nat) (u : KW W (⟨g, cells 9 t', T⟩ :: ⟨gb, cells 8 v, T'⟩ :: L)), e = .returned (.bool (decide (o = 1))) ∧ w' = u.w ∧ Hid (LessW t v q i n t' c b ∧ t' < B ^ 9 ∧ x < B ∧ o ≤ 1 ∧ x + c + b = wd t (i + n) + B * o)
set_option maxHeartbeats 1600000 in
theorem lessen_any {W : World} {L : List Ent} {g gb i n t v q cap cap' : Nat} {T T' : TypeId} (u0 : KW W (⟨g, cells 9 t, T⟩ :: ⟨gb, cells 8 v, T'⟩ :: L)) (hi : i + n < 9) (hq : Hid (q < B)) (ht : Hid (t < B ^ 9)) :
    Calls Tryz.prog 93 #[.slice (some ⟨g, i, none⟩) (n + 1) cap, .slice (some ⟨gb, 0, none⟩) n cap', .int .u64 q] u0.w (LessPost g gb i n t v q T T' W L) := by
  go_enter Tryz.func93, Tryz.ntmps93
  go_wp2_with (fail)
  go_loopw [7, 8, 15] (LeRel g gb i n t v q T T' W L) (fun _ _ k _ => n - (intOf k).toNat)
  case atStart => exact ⟨0, 0, 0, t, u0, rfl, Nat.zero_le _, rfl, rfl, rfl, Lib.hid ⟨LessW.start t v q i, ht.out⟩⟩
  case round =>
    clear u0
    obtain ⟨j, c, b, t', u, rfl, hj, rfl, rfl, rfl, hS⟩ := hrel
    by_cases hjn : j < n
    · obtain ⟨y, hy⟩ : ∃ y, Hid (wd v j = y) := ⟨_, Lib.hid rfl⟩
      obtain ⟨x, hx⟩ : ∃ x, Hid (wd t' (i + j) = x) := ⟨_, Lib.hid rfl⟩
      have hyb : y < B := by rw [← hy.out]; exact wd_lt v j
      have hxb : x < B := by rw [← hx.out]; exact wd_lt t' (i + j)
      have hj8 : j < 8 := by omega
      have hij : i + j < 9 := by omega
      have hc1 := cells_at hj8 hy.out
      have hc2 := cells_at hij hx.out
      obtain ⟨hh, lo, HM, FM⟩ := mul_fix q y hq.out hyb
      obtain ⟨l2, o, HA, FA⟩ := add_fix lo c 0 HM.out.2.1 hS.out.1.2.1
      obtain ⟨z, b', HS, FS⟩ := sub_fix x l2 b hxb HA.out.1
      have hzb := HS.out.1
      have HN : Hid (LessW t v q i (j + 1) (put t' (i + j) z) (hh + o) b' ∧ put t' (i + j) z < B ^ 9) := Lib.hid ⟨hS.out.1.next hq.out (by rw [hy.out]; exact HM.out.2.2) (by have := HA.out.2.2; rw [show cn 0 = 0 from rfl] at this; omega) hzb HS.out.2.1
        (by have h := HS.out.2.2; rw [cn_le hS.out.1.1] at h; rw [hx.out]; exact h), put_lt hS.out.2 hij hzb⟩
      have hho : ((hh : Int) + o) ≤ 18446744073709551615 := by have := HN.out.1.2.1; rw [B_eq] at this; omega
      have hjni : (j : Int) < n := by omega
      have hj0i : (0 : Int) ≤ j := by omega
      obtain ⟨u3, hu3⟩ := u.ex_put (j := i + j) (v := .int .u64 (z : Nat)) (cells_set hzb)
      have HU := Lib.hid hu3
      clear hu3 hyb hxb hzb
      go_wp2_with (fail)
      refine (FM _).mono ?_
      rintro e w' ⟨rfl, rfl⟩
      go_wp2_with (fail)
      refine (FA _).mono ?_
      rintro e w' ⟨rfl, rfl⟩
      go_wp2_with (fail)
      refine (FS _).mono ?_
      rintro e w' ⟨rfl, rfl⟩
      go_wp2_with (fail)
      go_roundw
      case rel => exact ⟨j + 1, hh + o, b', _, u3, by go_num, by omega, vint (by omega), rfl, HU.out, HN⟩
      case measure => simp [intOf]; omega
    · obtain rfl : j = n := by omega
      obtain ⟨x, hx⟩ : ∃ x, Hid (wd t' (i + j) = x) := ⟨_, Lib.hid rfl⟩
      have hxb : x < B := by rw [← hx.out]; exact wd_lt t' (i + j)
      have hc2 := cells_at hi hx.out
      obtain ⟨z, b', HS, FS⟩ := sub_fix x c b hxb hS.out.1.2.1
      have HX : Hid (wd t (i + j) = x) := Lib.hid (by rw [← hx.out]; unfold wd; rw [hS.out.1.2.2.2])
      have HE : Hid (z + c + b = wd t (i + j) + B * b') := Lib.hid (by have h := HS.out.2.2; rw [cn_le hS.out.1.1] at h; rw [HX.out]; exact h)
      clear hxb hjn
      go_wp2_with (fail)
      refine (FS _).mono ?_
      rintro e w' ⟨rfl, rfl⟩
      go_wp2_with (fail)
      go_ret
      exact ⟨c, b, z, b', t', u, ret_bool (by rw [Bool.eq_iff_iff]; simp; omega), rfl, Lib.hid ⟨hS.out.1, hS.out.2, HS.out.1, HS.out.2.1, HE.out⟩⟩
def RaRel (g gb i n t v : Nat) (T T' : TypeId) (W : World) (L : List Ent) (c k : Value) (wr : World) : Prop :=
  ∃ (j c' t' : Nat) (u : KW W (⟨g, cells 9 t', T⟩ :: ⟨gb, cells 8 v, T'⟩ :: L)), k = .int .i64 j ∧ j ≤ n ∧ c = .int .u64 c' ∧ wr = u.w ∧ Hid (RaiseW t v i j t' c' ∧ t' < B ^ 9)
def RaisePost (g gb i n t v : Nat) (T T' : TypeId) (W : World) (L : List Ent) (e : Ending) (w' : World) : Prop :=
  ∃ (c t' : Nat) (u : KW W (⟨g, cells 9 t', T⟩ :: ⟨gb, cells 8 v, T'⟩ :: L)), e = .returned (.tuple #[]) ∧ w' = u.w ∧ Hid (RaiseW t v i n t' c ∧ t' < B ^ 9)
set_option maxHeartbeats 1600000 in
theorem raise_any {W : World} {L : List Ent} {g gb i n t v cap cap' : Nat} {T T' : TypeId} (u0 : KW W (⟨g, cells 9 t, T⟩ :: ⟨gb, cells 8 v, T'⟩ :: L)) (hi : i + n < 9) (ht : Hid (t < B ^ 9)) :
    Calls Tryz.prog 94 #[.slice (some ⟨g, i, none⟩) n cap, .slice (some ⟨gb, 0, none⟩) n cap'] u0.w (RaisePost g gb i n t v T T' W L) := by
  go_enter Tryz.func94, Tryz.ntmps94
  go_wp2_with (fail)
  go_loopw [4, 8] (RaRel g gb i n t v T T' W L) (fun _ k _ => n - (intOf k).toNat)
  case atStart => exact ⟨0, 0, t, u0, rfl, Nat.zero_le _, rfl, rfl, Lib.hid ⟨RaiseW.start t v i, ht.out⟩⟩
  case round =>
    clear u0
    obtain ⟨j, c, t', u, rfl, hj, rfl, rfl, hS⟩ := hrel
    by_cases hjn : j < n
    · obtain ⟨y, hy⟩ : ∃ y, Hid (wd v j = y) := ⟨_, Lib.hid rfl⟩
      obtain ⟨x, hx⟩ : ∃ x, Hid (wd t' (i + j) = x) := ⟨_, Lib.hid rfl⟩
      have hyb : y < B := by rw [← hy.out]; exact wd_lt v j
      have hxb : x < B := by rw [← hx.out]; exact wd_lt t' (i + j)
      have hj8 : j < 8 := by omega
      have hij : i + j < 9 := by omega
      have hc1 := cells_at hj8 hy.out
      have hc2 := cells_at hij hx.out
      obtain ⟨z, o, HA, FA⟩ := add_fix x y c hxb hyb
      have hzb := HA.out.1
      have HN : Hid (RaiseW t v i (j + 1) (put t' (i + j) z) o ∧ put t' (i + j) z < B ^ 9) := Lib.hid ⟨hS.out.1.next hzb HA.out.2.1 (by have h := HA.out.2.2; rw [cn_le hS.out.1.1] at h; rw [hx.out, hy.out]; exact h), put_lt hS.out.2 hij hzb⟩
      have hjni : (j : Int) < n := by omega
      have hj0i : (0 : Int) ≤ j := by omega
      obtain ⟨u3, hu3⟩ := u.ex_put (j := i + j) (v := .int .u64 (z : Nat)) (cells_set hzb)
      have HU := Lib.hid hu3
      clear hu3 hyb hxb hzb
      go_wp2_with (fail)
      go_region_with (go_at_call 128; refine (FA _).mono ?_; rintro e w' ⟨rfl, rfl⟩)
      all_goals go_wp2_with (fail)
      all_goals
        go_roundw
        case rel => exact ⟨j + 1, o, _, u3.drew, by go_num, by omega, rfl, by rw [HU.out]; rfl, HN⟩
        case measure => simp [intOf]; omega
    · obtain rfl : j = n := by omega
      clear hjn
      go_wp2_with (fail)
      go_end0
      exact ⟨c, t', u, rfl, rfl, hS⟩
end Go.Proofs.YtacicfmalhhceaaGreatDoor.QuotW

/- package quot: a shifted number: a contract over the translation. -/
namespace KM
open Go Go.RowKit WideM WideV QuotM
theorem KW.perm_ex {W : World} {L L' : List Ent} (u : KW W L) (h : L'.Perm L) : ∃ u' : KW W L', u.w = u'.w :=
  ⟨⟨u.w, u.below, fun e he => u.mem e (h.mem_iff.1 he), (h.map _).nodup_iff.2 u.nodup⟩, rfl⟩
theorem KW.ex_put2 {W : World} {L : List Ent} {e e2 : Ent} {g : Nat} {c c' : Array Value} {t : TypeId} {j : Nat} {v : Value} (u : KW W (e :: e2 :: ⟨g, c, t⟩ :: L)) (h : c.setIfInBounds j v = c') : ∃ u' : KW W (e :: e2 :: ⟨g, c', t⟩ :: L), u.w.setCell ⟨g, j, none⟩ v = u'.w := by
  subst h
  exact u.ex_cell
theorem call_drew {P : Program} {W : World} {L : List Ent} {f : FuncId} {args : Array Value} {v : Value} (h : ∀ w, Calls P f args w (fun e w' => e = .returned v ∧ ∃ n, w' = w.drewN n)) (u : KW W L) :
    Calls P f args u.w fun e w'' => e = .returned v ∧ ∃ u' : KW W L, w'' = u'.w :=
  (h u.w).mono fun _ _ ⟨he, n, hn⟩ => ⟨he, by rw [hn]; exact u.go (below_drewN (Below.refl _ _) n)⟩
theorem cells_part (m m' s n : Nat) (hm : n ≤ m) (hm' : n ≤ m') : ((cells m 0).toList.take 0 ++ ((cells m' s).toList.take n ++ (cells m 0).toList.drop (0 + ((cells m' s).toList.take n).length))).toArray = cells m (s % B ^ n) := by
  have hl : ((cells m' s).toList.take n).length = n := by simp; omega
  rw [hl]
  apply Array.ext_getElem?
  intro i
  simp only [List.take_zero, List.nil_append, List.getElem?_toArray, Nat.zero_add]
  by_cases hi : i < n
  · rw [List.getElem?_append_left (by rw [hl]; exact hi), List.getElem?_take_of_lt hi, Array.getElem?_toList, cells_get (by omega), cells_get (by omega), wd_mod, if_pos hi]
  · rw [List.getElem?_append_right (by rw [hl]; omega), hl, List.getElem?_drop, show n + (i - n) = i by omega, Array.getElem?_toList]
    by_cases him : i < m
    · rw [cells_get him, cells_get him, wd_mod, if_neg hi]
      simp [wd]
    · rw [Array.getElem?_eq_none (by simp; omega), Array.getElem?_eq_none (by simp; omega)]
/-- copy of a row's lower words into a row of noughts -/
theorem list_copy0 {P : Program} {ops : Array Oper} {Q : Exit → Act → World → Prop} {rest : List Oper} {o : Oper} {a : Act} {W : World} {L L' : List Ent} {u : KW W L} {x y : Operand} {dT sT elem T2 : TypeId} {g g2 m m' s s' n dl dc sl sc : Nat}
    (hgd : o.guard = none) (ho : o.op = .call { callee := .builtin .copy, args := #[x, y], argTypes := #[dT, sT] }) (hu : P.underlying dT = some (.slice elem)) (hsz : (P.info? elem).map (·.size) = some 1)
    (hx : a.eval x = .slice (some ⟨g, 0, none⟩) dl dc) (hy : a.eval y = .slice (some ⟨g2, 0, none⟩) sl sc) (hn : n = Nat.min sl dl) (hm : n ≤ m) (hm' : n ≤ m') (he : s % B ^ n = s')
    [hp : PutAll L g (cells m s') (cells m 0) L'] [hs : Has L g2 (cells m' s) T2]
    (h : ∀ u' : KW W L', wpList P ops Q rest (a.put o.dst (goInt (n : Nat))) u'.w) : wpList P ops Q (o :: rest) a u.w := by
  subst he
  obtain ⟨A, t', C, hL, _⟩ := hp.out
  have hg := (u.mem ⟨g, cells m 0, t'⟩ (by rw [hL]; simp)).1
  have hl : ((cells m' s).toList.take n).length = n := by simp; omega
  refine wpList_copy_own hgd x y dT sT ho elem hu hsz g 0 dl dc ⟨g2, 0, none⟩ sl sc hx hy (cells m 0) t' hg ((cells m' s).toList.take n) (by rw [hl]; exact hn) ?_ (by rw [hl]; simp; omega) ?_ ?_
  · intro j v hj
    have hjn : j < n := by
      have := (List.getElem?_eq_some_iff.1 hj).1
      rw [hl] at this; exact this
    rw [List.getElem?_take_of_lt hjn, Array.getElem?_toList] at hj
    have e : (⟨g2, 0, none⟩ : Addr).add j = ⟨g2, j, none⟩ := by cases j <;> simp [Addr.add]
    rw [e, KW.cell? u j]; exact hj
  · intro v hv
    have := List.mem_of_mem_take hv
    have h1 := cells_one m' s
    rw [Array.all_eq_true_iff_forall_mem] at h1
    exact h1 v (by simpa using this)
  · rw [cells_part m m' s n hm hm', hl]
    obtain ⟨u', hu'⟩ := u.ex_row (h := hp)
    rw [hu']
    exact h u'
section
variable {P : Program} {fn : Func} {R : Ending → World → Prop} {tmps : Array Value} {W : World} {L : List Ent} {u : KW W L} {ty ty' : TypeId} {p q r : Tmp} {g g' n n' : Nat} {c c' : Array Value} {t t' : TypeId}
theorem body_cell2 (hf : fn.results = #[.cell p ty, .cell q ty']) (hp : tmps.getD p undef = .pointer (some ⟨g, 0, none⟩)) (hq : tmps.getD q undef = .pointer (some ⟨g', 0, none⟩)) [h : Has L g c t] [h' : Has L g' c' t'] (hr : Row P ty n) (hn : c.size = n) (hr' : Row P ty' n') (hn' : c'.size = n')
    (hR : R (.returned (.tuple #[.agg c, .agg c'])) u.w) : bodyPost P fn R .ret ⟨tmps, []⟩ u.w := by
  obtain ⟨h1, h2⟩ := run_cell (u := u) hp hr hn
  obtain ⟨h3, h4⟩ := run_cell (u := u) hq hr' hn'
  refine bodyPost_ret (v := .tuple #[.agg c, .agg c']) ?_ rfl hR
  simp only [Array.getD_eq_getD_getElem?] at h1 h3
  simp only [results, hf]
  simp [Sem.run_bind, h1, h2, h3, h4]
theorem body_cell2_tmp {v : Value} (hf : fn.results = #[.cell p ty, .cell q ty', .tmp r]) (hp : tmps.getD p undef = .pointer (some ⟨g, 0, none⟩)) (hq : tmps.getD q undef = .pointer (some ⟨g', 0, none⟩)) (hv : tmps.getD r undef = v) [h : Has L g c t] [h' : Has L g' c' t'] (hr : Row P ty n) (hn : c.size = n) (hr' : Row P ty' n') (hn' : c'.size = n')
    (hR : R (.returned (.tuple #[.agg c, .agg c', v])) u.w) : bodyPost P fn R .ret ⟨tmps, []⟩ u.w := by
  obtain ⟨h1, h2⟩ := run_cell (u := u) hp hr hn
  obtain ⟨h3, h4⟩ := run_cell (u := u) hq hr' hn'
  refine bodyPost_ret (v := .tuple #[.agg c, .agg c', v]) ?_ rfl hR
  simp only [Array.getD_eq_getD_getElem?] at h1 h3 hv
  simp only [results, hf]
  simp [Sem.run_bind, h1, h2, h3, h4, hv]
end
end KM
namespace Go.Proofs.YtacicfmalhhceaaGreatDoor.QuotW
open Go.RowKit
open DigM WideM WideV KM DigW WideW QuotM
theorem row9 : Row Tryz.prog 113 9 := ⟨by kernel_rfl, by kernel_rfl⟩
theorem zero9 : KM.Zero Tryz.prog 113 (cells 9 0) := by unfold KM.Zero; kernel_rfl
theorem size1 : (Tryz.prog.info? 22).map (·.size) = some 1 := by kernel_rfl
theorem index0 (n x : Nat) (hx : wd n 0 = x) (w : World) : (Instr.index 24 (wv n) (.int .i64 0)).run Tryz.prog w = .ok (.int .u64 (x : Nat)) w := by
  have hp : Tryz.prog.plainKey 22 = true := by kernel_rfl
  have hs : (sizeOf 22).run Tryz.prog w = .ok 1 w := by
    obtain ⟨i0, hi, hz0, hz1, hz2⟩ := info_parts infoU
    simp [sizeOf, typeInfo, hi, hz1, go_sem]
  have hg : (cells 8 n)[0 * 1]? = some (.int .u64 (x : Nat)) := cells_is (by decide) hx
  simp only [Instr.index, Sem.run_bind, run_underlying Tryz.underlying24, Result.andThen_ok, asIntOf, Sem.run_pure]
  simp only [hs, Sem.run_bind, Result.andThen_ok, Int.toNat_zero, Int.le_refl, true_and, show ((0 : Int) < (8 : Nat)) from by decide, if_true, run_part_plain w hp hg]
theorem shifted_parts (a k : Nat) (ha : Hid (a < M)) (hk : k < 64) : ∃ lo hi p x : Nat, p = a * 2 ^ k ∧ Hid (lo % B ^ 8 = lo) ∧ Hid (∀ w, (Instr.index 24 (wv hi) (.int .i64 0)).run Tryz.prog w = .ok (.int .u64 (x : Nat)) w) ∧ Hid ((cells 9 lo).setIfInBounds 8 (.int .u64 (x : Nat)) = cells 9 p) ∧
    Hid (∀ w, Calls Tryz.prog 91 #[wv a, .int .i64 k] w (Ret (wv lo) w)) ∧ Hid (∀ w, Calls Tryz.prog 91 #[wv a, .int .i64 ((k : Int) - 512)] w (Ret (wv hi) w)) := by
  have FL := fun w => wshift_any a k (by omega) (by omega) ha w
  have FH := fun w => wshift_any a ((k : Int) - 512) (by omega) (by omega) ha w
  have hS := shifted_is ha.out hk
  rw [sh_left] at FL
  have hxb := wd_lt (shN a ((k : Int) - 512)) 0
  exact ⟨low (a * 2 ^ k), shN a ((k : Int) - 512), a * 2 ^ k, wd (shN a ((k : Int) - 512)) 0, rfl, Lib.hid (Nat.mod_eq_of_lt (low_lt _)), Lib.hid (fun w => index0 _ _ rfl w), Lib.hid (by rw [cells_set hxb, hS]), Lib.hid FL, Lib.hid FH⟩
set_option maxRecDepth 100000 in
set_option maxHeartbeats 1600000 in
theorem shifted_any (a k : Nat) (ha : Hid (a < M)) (hk : k < 64) (w : World) : Calls Tryz.prog 90 #[wv a, .int .i64 k] w (Ret (.agg (cells 9 (a * 2 ^ k))) w) := by
  obtain ⟨lo, hi, p, x, hp, HL, HI, HC, HFL, HFH⟩ := shifted_parts a k ha hk
  rw [← hp]
  have hw1 : IntKind.i64.wrap ((k : Int) - 512) = (k : Int) - 512 := by rw [IntKind.wrap_i64]; omega
  clear hp
  unfold wv
  refine enter fun u => ?_
  go_enter Tryz.func90, Tryz.ntmps90
  go_wp2_with (first
    | ((with_reducible apply list_box); exact rfl; intro _ _)
    | ((with_reducible apply list_alloc); exact zeroW; intro _ _)
    | ((with_reducible apply list_alloc); exact zero9; intro _ _)
    | ((with_reducible apply lst_load); exact rfl; infer_instance; exact rowW; exact cells_size _ _)
    | ((with_reducible apply lst_store); exact rfl; exact rfl; infer_instance; exact rowW; exact cells_size _ _; exact cells_size _ _; exact cells_one _ _; intro _)
    | (go_at_call 91; (with_reducible refine (HFL.out _).mono ?_); rintro e w' ⟨rfl, hb'⟩; obtain ⟨_, rfl⟩ := KW.go _ hb'; clear hb'))
  simp only [Act.put, List.setIfInBounds_toArray, List.set_cons_succ, List.set_cons_zero]
  refine region_tail 2 (by kernel_rfl) (by kernel_rfl) fun _ => ?_
  simp only [List.take_succ_cons, List.take_zero, List.drop_succ_cons, List.drop_zero]
  repeat (go_big_quiet_step (fail))
  refine wpQuiet_nil ?_
  rintro _ ⟨u', rfl⟩
  refine list_copy0 (m := 9) (m' := 8) (n := 8) rfl rfl Tryz.underlying92 size1 rfl rfl (by decide) (by decide) (by decide) HL.out ?_
  intro u1
  go_wp2_with (first
    | ((with_reducible apply lst_load); exact rfl; infer_instance; exact rowW; exact cells_size _ _))
  refine (HFH.out _).mono ?_
  rintro e w' ⟨rfl, hb'⟩
  obtain ⟨u2, rfl⟩ := KW.go _ hb'
  obtain ⟨u3, hu3⟩ := u2.ex_put1 (j := 8) (v := .int .u64 (x : Nat)) HC.out
  have hI := HI.out
  clear hb'
  go_wp2_with (first
    | ((with_reducible apply lst_load); exact rfl; infer_instance; exact row9; exact cells_size _ _)
    | ((with_reducible apply lst_store); exact rfl; exact rfl; infer_instance; exact row9; exact cells_size _ _; exact cells_size _ _; exact cells_one _ _; intro _))
  exact body_cell Tryz.results90 rfl row9 (cells_size _ _) ⟨rfl, KW.below _⟩
end Go.Proofs.YtacicfmalhhceaaGreatDoor.QuotW

/- package quot: division by many words: a contract over the translation. -/
namespace Go.Proofs.YtacicfmalhhceaaGreatDoor.QuotW
open Go.RowKit
open DigM WideM WideV KM DigW WideW QuotM
theorem slice9 (g i j : Nat) (hij : i ≤ j) (hj : j ≤ 9) (hi : i < 9) (w : World) : (Instr.sliceAt 113 (.pointer (some ⟨g, 0, none⟩)) (some (.int .i64 (i : Nat))) (some (.int .i64 (j : Nat))) none).run Tryz.prog w = .ok (.slice (some ⟨g, i, none⟩) (j - i) (9 - i)) w := by
  have hal : Tryz.prog.arrayLen 113 = 9 := by kernel_rfl
  rw [run_sliceAt_array_lh w 113 ⟨g, 0, none⟩ (by simp [Program.arrayLen, Program.elem, Tryz.underlying113]) .i64 .i64 (i : Int) (j : Int) (by omega) (by omega) (by rw [hal]; omega)]
  go_simp
  omega
theorem slice8 (g j : Nat) (hj : j ≤ 8) (w : World) : (Instr.sliceAt 24 (.pointer (some ⟨g, 0, none⟩)) none (some (.int .i64 (j : Nat))) none).run Tryz.prog w = .ok (.slice (some ⟨g, 0, none⟩) j 8) w := by
  have hal : Tryz.prog.arrayLen 24 = 8 := by kernel_rfl
  rw [run_sliceAt_array_h w 24 ⟨g, 0, none⟩ (by simp [Program.arrayLen, Program.elem, Tryz.underlying24]) .i64 (j : Int) (by omega) (by rw [hal]; omega)]
  go_simp
theorem slice9h (g j : Nat) (hj : j ≤ 9) (w : World) : (Instr.sliceAt 113 (.pointer (some ⟨g, 0, none⟩)) none (some (.int .i64 (j : Nat))) none).run Tryz.prog w = .ok (.slice (some ⟨g, 0, none⟩) j 9) w := by
  have hal : Tryz.prog.arrayLen 113 = 9 := by kernel_rfl
  rw [run_sliceAt_array_h w 113 ⟨g, 0, none⟩ (by simp [Program.arrayLen, Program.elem, Tryz.underlying113]) .i64 (j : Int) (by omega) (by rw [hal]; omega)]
  go_simp
theorem perm5 (e9 e7 e6 e4 e3 : Ent) : [e9, e4, e6, e7, e3].Perm [e9, e7, e6, e4, e3] := ((List.reverse_perm [e7, e6, e4]).append_right [e3]).cons e9
def MnRel (a p v n : Nat) (w : World) (g3 g4 g6 g7 g9 : Nat) (i : Value) (wr : World) : Prop :=
  ∃ (m s t : Nat) (u : KW w [⟨g9, cells 9 t, 113⟩, ⟨g4, cells 8 v, 24⟩, ⟨g6, cells 8 s, 24⟩, ⟨g7, cells 8 0, 24⟩, ⟨g3, cells 8 a, 24⟩]), i = .int .i64 ((m : Int) - 1) ∧ m ≤ 9 - n ∧ wr = u.w ∧ Hid (ManyW p v n m s t)
/-- what a division by many words begins with, its numbers behind names -/
theorem many_parts (a b : Nat) (ha : Hid (a < M)) (hb : Hid (b < M)) (hn : 1 < wn b) : ∃ l k p v n d : Nat, wn b = d ∧ Hid (d = n + 2) ∧ 2 ≤ d ∧ d ≤ 8 ∧ k < 64 ∧ (64 * (d : Int) - l = k) ∧ l ≤ 512 ∧
    Hid (v < B ^ d ∧ B ≤ 2 * wd v (n + 1) ∧ ManyW p v d (9 - d) 0 p ∧ ∀ s t, ManyW p v d 0 s t → s = a / b ∧ shN (t % B ^ d) (-(k : Int)) = a % b) ∧
    Hid (∀ w, Calls Tryz.prog 65 #[wv b] w (Ret (.int .i64 (l : Nat)) w)) ∧
    Hid (∀ w, Calls Tryz.prog 90 #[wv a, .int .i64 k] w (Ret (.agg (cells 9 p)) w)) ∧
    Hid (∀ w, Calls Tryz.prog 91 #[wv b, .int .i64 k] w (Ret (wv v) w)) := by
  have h8 := wn_le hb.out
  obtain ⟨n, hw⟩ : ∃ n, wn b = n + 2 := ⟨wn b - 2, by omega⟩
  have hbl := bl_le hb.out
  have h1 : bl b ≤ 64 * (n + 2) := by unfold wn at hw; omega
  have h2 : 64 * (n + 2) < bl b + 64 := by unfold wn at hw; omega
  have hbp : 0 < b := by have := wn_big hn; have := B_pos; omega
  have hT := top_of hbp h1 h2
  have hT' := hT
  obtain ⟨hk, hv, hv2⟩ := hT'
  have hM8 : B ^ (n + 2) ≤ M := Nat.pow_le_pow_right B_pos (by omega)
  have FV := fun w => wshift_any b ((64 * (n + 2) - bl b : Nat) : Int) (by omega) (by omega) hb w
  rw [sh_left, low_of (by omega)] at FV
  refine ⟨bl b, 64 * (n + 2) - bl b, a * 2 ^ (64 * (n + 2) - bl b), b * 2 ^ (64 * (n + 2) - bl b), n, n + 2, hw, Lib.hid rfl, by omega, by omega, hk, by omega, hbl,
    Lib.hid ⟨hv, hT.word, hT.start ha.out (by omega), fun s t hM => ?_⟩, Lib.hid fun w => wlen8_any b hb w, Lib.hid fun w => shifted_any a _ ha hk w, Lib.hid FV⟩
  obtain ⟨e1, e2⟩ := Top.over hM
  refine ⟨e1, ?_⟩
  rw [e2]
  refine back_right ?_
  rw [← e2]
  exact Nat.lt_of_lt_of_le (Nat.mod_lt _ (Bp_pos _)) hM8
set_option maxRecDepth 100000 in
set_option maxHeartbeats 6400000 in
theorem overMany_any (a b : Nat) (ha : Hid (a < M)) (hb : Hid (b < M)) (hn : 1 < wn b) (w : World) : Calls Tryz.prog 60 #[wv a, wv b, .int .i64 (wn b : Nat)] w (Ret (.tuple #[wv (a / b), wv (a % b)]) w) := by
  obtain ⟨l, k, p, v, n, d, hwn, HD, hd2, hd8, hk, hlk, hl, HP, FLen, FSh, FV⟩ := many_parts a b ha hb hn
  rw [hwn]
  clear hn hwn
  have hw1 : IntKind.i64.wrap (64 * (d : Int) - l) = (k : Int) := by rw [hlk, IntKind.wrap_i64]; omega
  have hw0 : IntKind.i64.wrap (64 * (d : Int)) = 64 * (d : Int) := by rw [IntKind.wrap_i64]; omega
  have hw2 : IntKind.i64.wrap (8 - (d : Int)) = 8 - (d : Int) := by rw [IntKind.wrap_i64]; omega
  unfold wv
  refine enter fun u => ?_
  go_enter Tryz.func60, Tryz.ntmps60
  go_wp2_with (first
    | ((with_reducible apply list_box); exact rfl; intro _ _)
    | ((with_reducible apply list_alloc); exact zeroW; intro _ _)
    | ((with_reducible apply list_alloc); exact zero9; intro _ _)
    | ((with_reducible apply lst_load); exact rfl; infer_instance; exact rowW; exact cells_size _ _)
    | ((with_reducible apply lst_store); exact rfl; exact rfl; infer_instance; exact rowW; exact cells_size _ _; exact cells_size _ _; exact cells_one _ _; intro _)
    | ((with_reducible apply lst_store); exact rfl; exact rfl; infer_instance; exact row9; exact cells_size _ _; exact cells_size _ _; exact cells_one _ _; intro _)
    | (go_at_call 65; (with_reducible refine (FLen.out _).mono ?_); rintro e w' ⟨rfl, hb'⟩; obtain ⟨_, rfl⟩ := KW.go _ hb'; clear hb')
    | (go_at_call 90; (with_reducible refine (FSh.out _).mono ?_); rintro e w' ⟨rfl, hb'⟩; obtain ⟨_, rfl⟩ := KW.go _ hb'; clear hb')
    | (go_at_call 91; (with_reducible refine (FV.out _).mono ?_); rintro e w' ⟨rfl, hb'⟩; obtain ⟨_, rfl⟩ := KW.go _ hb'; clear hb'))
  rename_i g3 x1 g4 x2 g6 x3 g7 x4 x5 x6 g9 x7 x8 x9 u9 _ _
  obtain ⟨u1, hu1⟩ := u9.perm_ex (L' := [⟨g9, cells 9 p, 113⟩, ⟨g4, cells 8 v, 24⟩, ⟨g6, cells 8 0, 24⟩, ⟨g7, cells 8 0, 24⟩, ⟨g3, cells 8 a, 24⟩])
    (perm5 _ _ _ _ _)
  rw [hu1]
  clear hu1 x1 x2 x3 x4 x5 x6 x7 x8 x9 u9 hw0 hw1 hw2 FLen FSh FV hlk
  go_loopw [10] (MnRel a p v d w g3 g4 g6 g7 g9) (fun i _ => (intOf i + 1).toNat)
  case atStart => exact ⟨9 - d, 0, p, u1, vint (by omega), Nat.le_refl _, rfl, Lib.hid HP.out.2.2.1⟩
  case round =>
    clear u1
    obtain ⟨m, s, t, u, rfl, hm, rfl, hS⟩ := hrel
    cases m with
    | zero =>
      obtain ⟨hE1, hE2⟩ := HP.out.2.2.2 s t hS.out
      have HE := Lib.hid hE1
      obtain ⟨r, hr⟩ : ∃ r, t % B ^ d = r := ⟨_, rfl⟩
      have HR := Lib.hid hr
      rw [hr] at hE2
      have hrM : r < M := by rw [← hr]; exact Nat.lt_of_lt_of_le (Nat.mod_lt _ (Bp_pos _)) (Nat.pow_le_pow_right B_pos hd8)
      have FB := fun w => wshift_any r (-(k : Int)) (by omega) (by omega) (Lib.hid hrM) w
      rw [hE2] at FB
      have HFB := Lib.hid FB
      clear FB hE1 hE2 hr hrM
      have hsl := slice9h g9 d (by omega)
      go_wp2_with (fail)
      refine region_tail 3 (by kernel_rfl) (by kernel_rfl) fun _ => ?_
      simp only [List.take_succ_cons, List.take_zero, List.drop_succ_cons, List.drop_zero]
      repeat (go_big_quiet_step (fail))
      refine wpQuiet_nil ?_
      rintro _ ⟨u', rfl⟩
      refine list_copy0 (m := 8) (m' := 9) (n := d) rfl rfl Tryz.underlying92 size1 rfl rfl (Nat.min_eq_left hd8).symm hd8 (by omega) HR.out ?_
      intro u1
      clear hsl
      have hwn : IntKind.i64.wrap (-(k : Int)) = -(k : Int) := by rw [IntKind.wrap_i64]; omega
      go_wp2_with (fail)
      simp only [Act.put, List.setIfInBounds_toArray, List.set_cons_succ, List.set_cons_zero]
      refine region_tail 5 (by kernel_rfl) (by kernel_rfl) fun _ => ?_
      simp only [List.take_succ_cons, List.take_zero, List.drop_succ_cons, List.drop_zero]
      repeat (go_big_quiet_step (first | (with_reducible exact call HFB.out _)))
      refine wpQuiet_nil ?_
      rintro _ ⟨u2, rfl⟩
      go_wp2_with (first
        | ((with_reducible apply lst_store); exact rfl; exact rfl; infer_instance; exact rowW; exact cells_size _ _; exact cells_size _ _; exact cells_one _ _; intro _))
      refine body_cell2 Tryz.results60 rfl rfl rowW (cells_size _ _) rowW (cells_size _ _) ⟨?_, KW.below _⟩
      rw [HE.out]
    | succ i =>
      have ei : ((i + 1 : Nat) : Int) - 1 = i := by omega
      rw [ei]
      clear ei
      obtain ⟨x0, hx0⟩ : ∃ x, Hid (wd t (i + d) = x) := ⟨_, Lib.hid rfl⟩
      obtain ⟨x1, hx1⟩ : ∃ x, Hid (wd t (i + (n + 1)) = x) := ⟨_, Lib.hid rfl⟩
      obtain ⟨x2, hx2⟩ : ∃ x, Hid (wd t (i + n) = x) := ⟨_, Lib.hid rfl⟩
      obtain ⟨y1, hy1⟩ : ∃ y, Hid (wd v (n + 1) = y) := ⟨_, Lib.hid rfl⟩
      obtain ⟨y2, hy2⟩ : ∃ y, Hid (wd v n = y) := ⟨_, Lib.hid rfl⟩
      have hdn := HD.out
      have hG : ∃ q : Nat, Hid (q < B ∧ t % B ^ (i + 1 + d) / (v * B ^ i) ≤ q ∧ q ≤ t % B ^ (i + 1 + d) / (v * B ^ i) + 1) ∧
          Hid (∀ w, Calls Tryz.prog 92 #[.int .u64 x0, .int .u64 x1, .int .u64 x2, .int .u64 y1, .int .u64 y2] w (fun e w' => e = .returned (.int .u64 (q : Nat)) ∧ ∃ n, w' = w.drewN n)) := by
        have hP := HP.out
        have hT := hS.out
        rw [hdn] at hP hT
        have htop := hT.top hP.1
        rw [← hdn, hx0.out, hy1.out] at htop
        obtain ⟨q, hq, F⟩ := guess_fix x0 x1 x2 y1 y2 htop (by rw [← hx1.out]; exact wd_lt _ _) (by rw [← hx2.out]; exact wd_lt _ _) (by rw [← hy1.out]; exact wd_lt _ _) (by rw [← hy2.out]; exact wd_lt _ _)
        have hq' := hq.out
        rw [← hx0.out, ← hx1.out, ← hx2.out, ← hy1.out, ← hy2.out, hdn] at hq'
        have := hT.guess hP.1 hP.2.1 hq'
        rw [← hdn] at this
        exact ⟨q, Lib.hid ⟨this.2.2, this.1, this.2.1⟩, Lib.hid F⟩
      obtain ⟨q, HQ, HG⟩ := hG
      have hi8 : i + d < 9 := by omega
      obtain ⟨k0, hk0⟩ : ∃ k0, k0 = i + d := ⟨_, rfl⟩
      obtain ⟨k1, hk1⟩ : ∃ k1, k1 = i + (n + 1) := ⟨_, rfl⟩
      obtain ⟨k2, hk2⟩ : ∃ k2, k2 = i + n := ⟨_, rfl⟩
      obtain ⟨j1, hj1⟩ : ∃ j1, j1 = n + 1 := ⟨_, rfl⟩
      have b0 : k0 < 9 := by omega
      have b1 : k1 < 9 := by omega
      have b2 : k2 < 9 := by omega
      have b3 : j1 < 8 := by omega
      have b4 : n < 8 := by omega
      have c0 := cells_at b0 (show wd t k0 = x0 by rw [hk0]; exact hx0.out)
      have c1 := cells_at b1 (show wd t k1 = x1 by rw [hk1]; exact hx1.out)
      have c2 := cells_at b2 (show wd t k2 = x2 by rw [hk2]; exact hx2.out)
      have e1 := cells_at b3 (show wd v j1 = y1 by rw [hj1]; exact hy1.out)
      have e2 := cells_at b4 (show wd v n = y2 from hy2.out)
      have b5 : i < 8 := by omega
      have w0 : IntKind.i64.wrap ((i : Int) + d) = (k0 : Int) := by rw [IntKind.wrap_i64]; omega
      have w1 : IntKind.i64.wrap ((k0 : Int) - 1) = (k1 : Int) := by rw [IntKind.wrap_i64]; omega
      have w2 : IntKind.i64.wrap ((k0 : Int) - 2) = (k2 : Int) := by rw [IntKind.wrap_i64]; omega
      have w3 : IntKind.i64.wrap ((d : Int) - 1) = (j1 : Int) := by rw [IntKind.wrap_i64]; omega
      have w4 : IntKind.i64.wrap ((d : Int) - 2) = (n : Int) := by rw [IntKind.wrap_i64]; omega
      have HK0 := Lib.hid hk0
      clear hdn hk0 hk1 hk2 hj1 hx0 hx1 hx2 hy1 hy2 HD hd2 hm
      go_wp2_with (fail)
      refine region (by kernel_rfl) (by kernel_rfl) fun _ => ?_
      repeat (go_big_quiet_step (first | (with_reducible exact call_drew HG.out _)))
      refine wpQuiet_nil ?_
      rintro _ ⟨u2, rfl⟩
      clear c0 c1 c2 e1 e2 w1 w2 w3 w4 b0 b1 b2 b3 b4
      have w5 : IntKind.i64.wrap ((k0 : Int) + 1) = (k0 : Int) + 1 := by have := HK0.out; rw [IntKind.wrap_i64]; omega
      have hsl1 := slice9 g9 i (k0 + 1) (by have := HK0.out; omega) (by have := HK0.out; omega) (by omega)
      rw [show k0 + 1 - i = d + 1 by have := HK0.out; omega, show ((k0 + 1 : Nat) : Int) = (k0 : Int) + 1 from rfl] at hsl1
      have hsl2 := slice8 g4 d hd8
      go_wp2_with (fail)
      refine region_tail 9 (by kernel_rfl) (by kernel_rfl) fun _ => ?_
      simp only [List.take_succ_cons, List.take_zero, List.drop_succ_cons, List.drop_zero]
      repeat (go_big_quiet_step (fail))
      refine wpQuiet_nil ?_
      rintro _ ⟨u3, rfl⟩
      clear w5 hsl1
      go_wp2_with (fail)
      refine (lessen_any u3 hi8 (Lib.hid HQ.out.1) (Lib.hid hS.out.2.2.2)).mono ?_
      rintro e w' ⟨c, b', x, o, t', u4, rfl, rfl, HL⟩
      by_cases ho : o = 1
      · subst ho
        have hL := HL.out
        obtain ⟨q1, hq1⟩ : ∃ q1, q1 = q - 1 := ⟨_, rfl⟩
        have hqp := LessW.pos hS.out hL.1 HP.out.1 hL.2.2.1 hL.2.2.2.2
        have w6 : IntKind.u64.wrap ((q : Int) - 1) = (q1 : Int) := by rw [IntKind.wrap_u64]; have := HQ.out.1; rw [B_eq] at this; omega
        have HQ1 := Lib.hid hq1
        have hsl3 := slice9 g9 i k0 (by have := HK0.out; omega) (by have := HK0.out; omega) (by omega)
        rw [show k0 - i = d by have := HK0.out; omega] at hsl3
        clear hL hq1 hqp
        go_wp2_with (fail)
        refine region_tail 7 (by kernel_rfl) (by kernel_rfl) fun _ => ?_
        simp only [List.take_succ_cons, List.take_zero, List.drop_succ_cons, List.drop_zero]
        repeat (go_big_quiet_step (fail))
        refine wpQuiet_nil ?_
        rintro _ ⟨u5, rfl⟩
        clear w6 hsl3 hsl2 w0
        go_wp2_with (fail)
        refine (raise_any u5 hi8 (Lib.hid HL.out.2.1)).mono ?_
        rintro e w' ⟨c2, t2, u6, rfl, rfl, HR⟩
        have HN : Hid (ManyW p v d i (put s i q1) t2) := Lib.hid (by rw [HQ1.out]; exact (LessW.mend hS.out HL.out.1 HR.out.1 HP.out.1 HR.out.2 HQ.out.2.2 HL.out.2.2.1 HL.out.2.2.2.2).2)
        have hqb : q1 < B := by rw [HQ1.out]; have := HQ.out.1; omega
        obtain ⟨u7, hu7⟩ := u6.ex_put2 (j := i) (v := .int .u64 (q1 : Nat)) (cells_set hqb)
        have HU := Lib.hid hu7
        clear hu7 hqb
        go_wp2_with (fail)
        go_roundw
        case rel => exact ⟨i, put s i q1, t2, u7, by go_num, by have := HK0.out; omega, HU.out, HN⟩
        case measure => simp [intOf]
      · have HO : Hid (o = 0) := Lib.hid (by have := HL.out.2.2.2.1; omega)
        have HN : Hid (ManyW p v d i (put s i q) t') := Lib.hid (LessW.right hS.out HL.out.1 HP.out.1 HL.out.2.1 HQ.out.2.1 (by have := HL.out.2.2.2.2; rw [HO.out] at this; exact this))
        have hqb := HQ.out.1
        obtain ⟨u7, hu7⟩ := u4.ex_put2 (j := i) (v := .int .u64 (q : Nat)) (cells_set hqb)
        have HU := Lib.hid hu7
        clear hu7 hqb hsl2 w0
        go_wp2_with (fail)
        go_roundw
        case rel => exact ⟨i, put s i q, t', u7, by go_num, by have := HK0.out; omega, HU.out, HN⟩
        case measure => simp [intOf]
end Go.Proofs.YtacicfmalhhceaaGreatDoor.QuotW

/- package quot: quotient and rest, for any numbers: contracts over the translation. -/
namespace Go.Proofs.YtacicfmalhhceaaGreatDoor.QuotW
open Go.RowKit
open DigM WideM WideV KM DigW WideW QuotM
abbrev OverV (q r : Nat) (e : Int) : Value := .tuple #[wv q, wv r, .int .i64 e]
set_option maxRecDepth 100000 in
set_option maxHeartbeats 1600000 in
theorem over_zero (a : Nat) (w : World) : Calls Tryz.prog 29 #[wv a, wv 0] w (Ret (OverV 0 0 1) w) := by
  have FZ := fun w => zero_any 0 M_pos w
  rw [eqB_same] at FZ
  have HFZ := Lib.hid FZ
  clear FZ
  unfold wv
  have h0 := nought
  refine enter fun u => ?_
  go_enter Tryz.func29, Tryz.ntmps29
  go_wp2_with (first
    | ((with_reducible apply list_box); exact rfl; intro _ _)
    | ((with_reducible apply list_alloc); exact zeroW; intro _ _)
    | ((with_reducible apply lst_load); exact rfl; infer_instance; exact rowW; exact cells_size _ _)
    | ((with_reducible apply lst_store); exact rfl; exact rfl; infer_instance; exact rowW; exact cells_size _ _; exact cells_size _ _; exact cells_one _ _; intro _)
    | (go_at_call 27; (with_reducible refine (HFZ.out _).mono ?_); rintro e w' ⟨rfl, hb'⟩; obtain ⟨_, rfl⟩ := KW.go _ hb'; clear hb'))
  exact body_cell2_tmp Tryz.results29 rfl rfl rfl rowW (cells_size _ _) rowW (cells_size _ _) ⟨rfl, KW.below _⟩
set_option maxRecDepth 100000 in
set_option maxHeartbeats 3200000 in
theorem over_some (a b : Nat) (ha : Hid (a < M)) (hb : Hid (b < M)) (hp : 0 < b) (w : World) : Calls Tryz.prog 29 #[wv a, wv b] w (Ret (OverV (a / b) (a % b) 0) w) := by
  have FZ := fun w => zero_any b hb.out w
  rw [show eqB b 0 = false from decide_eq_false (by omega)] at FZ
  have HFZ := Lib.hid FZ
  have FC := fun w => wcmp_any a b ha hb w
  clear FZ
  by_cases hlt : a < b
  · rw [cmpI_lt hlt] at FC
    have HFC := Lib.hid FC
    rw [Nat.div_eq_of_lt hlt, Nat.mod_eq_of_lt hlt]
    clear FC hlt
    unfold wv
    have h0 := nought
    refine enter fun u => ?_
    go_enter Tryz.func29, Tryz.ntmps29
    go_wp2_with (first
      | ((with_reducible apply list_box); exact rfl; intro _ _)
      | ((with_reducible apply list_alloc); exact zeroW; intro _ _)
      | ((with_reducible apply lst_load); exact rfl; infer_instance; exact rowW; exact cells_size _ _)
      | (go_at_call 27; (with_reducible refine (HFZ.out _).mono ?_); rintro e w' ⟨rfl, hb'⟩; obtain ⟨_, rfl⟩ := KW.go _ hb'; clear hb')
      | (go_at_call 58; (with_reducible refine (HFC.out _).mono ?_); rintro e w' ⟨rfl, hb'⟩; obtain ⟨_, rfl⟩ := KW.go _ hb'; clear hb'))
    refine region_reads _ (Sub.skip (h := Sub.skip (h := Sub.both (h := Sub.both (h := Sub.nil))))) 2 (by kernel_rfl) (by kernel_rfl) (fun _ _ _ _ _ h => by simp only [Exit.then, bodyPost, defers_put] at h ⊢; exact h) ?_
    simp only [List.take_succ_cons, List.take_zero, List.drop_succ_cons, List.drop_zero]
    refine reads_value (v := .agg (cells 8 0)) rfl ?v0 ?_
    case v0 => intro w; rw [← nought]; go_simp
    (with_reducible apply reads_load); exact rfl; infer_instance; exact rowW; exact cells_size _ _
    refine reads_nil fun u2 => ?_
    (with_reducible apply tail_store); exact rfl; exact rfl; infer_instance; infer_instance; exact rowW; exact cells_size _ _; exact cells_size _ _; exact cells_one _ _; intro u3
    (with_reducible apply tail_store); exact rfl; exact rfl; infer_instance; infer_instance; exact rowW; exact cells_size _ _; exact cells_size _ _; exact cells_one _ _; intro u4
    (with_reducible apply tail_assign); exact rfl; infer_instance
    refine tail_nil ?_
    go_wp2_with (fail)
    exact body_cell2_tmp Tryz.results29 rfl rfl rfl rowW (cells_size _ _) rowW (cells_size _ _) ⟨rfl, KW.below _⟩
  · have hz : 0 ≤ cmpI a b := by unfold cmpI; rw [if_neg hlt]; split <;> decide
    generalize cmpI a b = z at *
    have hz2 : decide (z < 0) = false := by simp; omega
    have HFC := Lib.hid FC
    have FN := Lib.hid (fun w => wordsOf_any b hb w)
    clear FC hlt
    by_cases hn : 1 < wn b
    · have FM := Lib.hid (fun w => overMany_any a b ha hb hn w)
      generalize wn b = n at *
      have hn2 : (1 : Int) < n := by omega
      generalize a / b = q at *
      generalize a % b = r at *
      unfold wv
      refine enter fun u => ?_
      go_enter Tryz.func29, Tryz.ntmps29
      go_wp2_with (first
        | ((with_reducible apply list_box); exact rfl; intro _ _)
        | ((with_reducible apply list_alloc); exact zeroW; intro _ _)
        | ((with_reducible apply lst_load); exact rfl; infer_instance; exact rowW; exact cells_size _ _)
        | ((with_reducible apply lst_store); exact rfl; exact rfl; infer_instance; exact rowW; exact cells_size _ _; exact cells_size _ _; exact cells_one _ _; intro _)
        | (go_at_call 27; (with_reducible refine (HFZ.out _).mono ?_); rintro e w' ⟨rfl, hb'⟩; obtain ⟨_, rfl⟩ := KW.go _ hb'; clear hb')
        | (go_at_call 58; (with_reducible refine (HFC.out _).mono ?_); rintro e w' ⟨rfl, hb'⟩; obtain ⟨_, rfl⟩ := KW.go _ hb'; clear hb')
        | (go_at_call 59; (with_reducible refine (FN.out _).mono ?_); rintro e w' ⟨rfl, hb'⟩; obtain ⟨_, rfl⟩ := KW.go _ hb'; clear hb')
        | (go_at_call 60; (with_reducible refine (FM.out _).mono ?_); rintro e w' ⟨rfl, hb'⟩; obtain ⟨_, rfl⟩ := KW.go _ hb'; clear hb'))
      refine region_reads _ (Sub.both (h := Sub.both (h := Sub.both (h := Sub.both (h := Sub.nil))))) 2 (by kernel_rfl) (by kernel_rfl) (fun _ _ _ _ _ h => by simp only [Exit.then, bodyPost, defers_put] at h ⊢; exact h) ?_
      simp only [List.take_succ_cons, List.take_zero, List.drop_succ_cons, List.drop_zero]
      (with_reducible apply reads_load); exact rfl; infer_instance; exact rowW; exact cells_size _ _
      (with_reducible apply reads_load); exact rfl; infer_instance; exact rowW; exact cells_size _ _
      refine reads_nil fun u2 => ?_
      (with_reducible apply tail_store); exact rfl; exact rfl; infer_instance; infer_instance; exact rowW; exact cells_size _ _; exact cells_size _ _; exact cells_one _ _; intro u3
      (with_reducible apply tail_store); exact rfl; exact rfl; infer_instance; infer_instance; exact rowW; exact cells_size _ _; exact cells_size _ _; exact cells_one _ _; intro u4
      (with_reducible apply tail_assign); exact rfl; infer_instance
      refine tail_nil ?_
      go_wp2_with (fail)
      exact body_cell2_tmp Tryz.results29 rfl rfl rfl rowW (cells_size _ _) rowW (cells_size _ _) ⟨rfl, KW.below _⟩
    · have hbB := wn_small (show wn b ≤ 1 by omega)
      have FM := Lib.hid (fun w => overWord_any a b ha (Lib.hid ⟨hp, hbB⟩) w)
      have hrB : a % b < B := Nat.lt_trans (Nat.mod_lt _ hp) hbB
      have FO := Lib.hid (fun w => of_any (a % b) (Lib.hid (by rw [← B_eq]; exact hrB)) w)
      have c0 := cells_at (show 0 < 8 by decide) (wd_self hbB)
      generalize wn b = n at *
      have hn2 : ¬ (1 : Int) < n := by omega
      have hn3 : decide ((1 : Int) < n) = false := by simp; omega
      generalize a / b = q at *
      generalize a % b = r at *
      clear hbB hrB
      unfold wv
      refine enter fun u => ?_
      go_enter Tryz.func29, Tryz.ntmps29
      go_wp2_with (first
        | ((with_reducible apply list_box); exact rfl; intro _ _)
        | ((with_reducible apply list_alloc); exact zeroW; intro _ _)
        | ((with_reducible apply lst_load); exact rfl; infer_instance; exact rowW; exact cells_size _ _)
        | ((with_reducible apply lst_store); exact rfl; exact rfl; infer_instance; exact rowW; exact cells_size _ _; exact cells_size _ _; exact cells_one _ _; intro _)
        | (go_at_call 27; (with_reducible refine (HFZ.out _).mono ?_); rintro e w' ⟨rfl, hb'⟩; obtain ⟨_, rfl⟩ := KW.go _ hb'; clear hb')
        | (go_at_call 58; (with_reducible refine (HFC.out _).mono ?_); rintro e w' ⟨rfl, hb'⟩; obtain ⟨_, rfl⟩ := KW.go _ hb'; clear hb')
        | (go_at_call 59; (with_reducible refine (FN.out _).mono ?_); rintro e w' ⟨rfl, hb'⟩; obtain ⟨_, rfl⟩ := KW.go _ hb'; clear hb')
        | (go_at_call 61; (with_reducible refine (FM.out _).mono ?_); rintro e w' ⟨rfl, hb'⟩; obtain ⟨_, rfl⟩ := KW.go _ hb'; clear hb'))
      refine region_tail 3 (by kernel_rfl) (by kernel_rfl) fun _ => ?_
      simp only [List.take_succ_cons, List.take_zero, List.drop_succ_cons, List.drop_zero]
      repeat (go_big_quiet_step (first | (with_reducible exact call FO.out _)))
      refine wpQuiet_nil ?_
      rintro _ ⟨u2, rfl⟩
      go_wp2_with (first
        | ((with_reducible apply lst_store); exact rfl; exact rfl; infer_instance; exact rowW; exact cells_size _ _; exact cells_size _ _; exact cells_one _ _; intro _))
      exact body_cell2_tmp Tryz.results29 rfl rfl rfl rowW (cells_size _ _) rowW (cells_size _ _) ⟨rfl, KW.below _⟩
end Go.Proofs.YtacicfmalhhceaaGreatDoor.QuotW

/- package quot: what divides two numbers most: a contract over the translation. -/
namespace Go.Proofs.YtacicfmalhhceaaGreatDoor.QuotW
open Go.RowKit
open DigM WideM WideV KM DigW WideW QuotM
def GcRel (a b : Nat) (w : World) (g2 g3 g4 : Nat) (k : Nat) (wr : World) : Prop :=
  ∃ (x : Nat) (u : KW w [⟨g4, cells 8 0, 24⟩, ⟨g3, cells 8 k, 24⟩, ⟨g2, cells 8 x, 24⟩]), wr = u.w ∧ Hid (x < M ∧ k < M ∧ Nat.gcd x k = Nat.gcd a b)
set_option maxRecDepth 100000 in
set_option maxHeartbeats 3200000 in
theorem gcd_any (a b : Nat) (ha : Hid (a < M)) (hb : Hid (b < M)) (w : World) : Calls Tryz.prog 57 #[wv a, wv b] w (Ret (wv (Nat.gcd a b)) w) := by
  unfold wv
  refine enter fun u => ?_
  go_enter Tryz.func57, Tryz.ntmps57
  go_wp2_with (first
    | ((with_reducible apply list_box); exact rfl; intro _ _)
    | ((with_reducible apply list_alloc); exact zeroW; intro _ _))
  rename_i g2 x2 g3 x3 g4 u4 _ _
  simp only [Act.put, List.setIfInBounds_toArray, List.set_cons_succ, List.set_cons_zero]
  go_loopg [] b (fun k wr => GcRel a b w g2 g3 g4 k wr)
  case atStart => exact ⟨a, u4, rfl, Lib.hid ⟨ha.out, hb.out, rfl⟩⟩
  case round =>
    clear x2 x3 u4
    obtain ⟨x, u, rfl, hG⟩ := hrel
    have FN := Lib.hid (fun w => wordsOf_any gk (Lib.hid hG.out.2.1) w)
    by_cases hn : 1 < wn gk
    · have hp : 0 < gk := by have := wn_big hn; have := B_pos; omega
      have FO := Lib.hid (fun w => over_some x gk (Lib.hid hG.out.1) (Lib.hid hG.out.2.1) hp w)
      have HL : Hid (x % gk < gk) := Lib.hid (Nat.mod_lt _ hp)
      have HN : Hid (gk < M ∧ x % gk < M ∧ Nat.gcd gk (x % gk) = Nat.gcd a b) := Lib.hid ⟨hG.out.2.1, Nat.lt_trans HL.out hG.out.2.1, by rw [← hG.out.2.2, Nat.gcd_comm x gk, Nat.gcd_rec gk x, Nat.gcd_comm]⟩
      generalize wn gk = n at *
      have hn2 : (1 : Int) < n := by omega
      generalize x / gk = q at *
      generalize x % gk = r at *
      clear hp hn
      go_wp2_with (first
        | ((with_reducible apply list_alloc); exact zeroW; intro _ _)
        | ((with_reducible apply lst_load); exact rfl; infer_instance; exact rowW; exact cells_size _ _)
        | ((with_reducible apply lst_store); exact rfl; exact rfl; infer_instance; exact rowW; exact cells_size _ _; exact cells_size _ _; exact cells_one _ _; intro _)
        | (go_at_call 59; (with_reducible refine (FN.out _).mono ?_); rintro e w' ⟨rfl, hb'⟩; obtain ⟨_, rfl⟩ := KW.go _ hb'; clear hb')
        | (go_at_call 29; (with_reducible refine (FO.out _).mono ?_); rintro e w' ⟨rfl, hb'⟩; obtain ⟨_, rfl⟩ := KW.go _ hb'; clear hb'))
      refine region_pick [1] [0, 2, 3] _ (Sub.both (h := Sub.skip (h := Sub.skip (h := Sub.skip (h := Sub.skip (h := Sub.nil)))))) (by kernel_rfl) (by kernel_rfl) (fun _ _ _ _ _ h => by simp only [Exit.then, Exit.inBlock, bodyPost, defers_put] at h ⊢; exact h) ?_
      simp only [pick, List.filterMap_cons, List.filterMap_nil, List.getElem?_cons_zero, List.getElem?_cons_succ]
      (with_reducible apply reads_load); exact rfl; infer_instance; exact rowW; exact cells_size _ _
      refine reads_nil fun u2 => ?_
      (with_reducible apply tail_load); exact rfl; infer_instance; infer_instance; exact rowW; exact cells_size _ _
      (with_reducible apply tail_store); exact rfl; exact rfl; infer_instance; infer_instance; exact rowW; exact cells_size _ _; exact cells_size _ _; exact cells_one _ _; intro u3
      (with_reducible apply tail_store); exact rfl; exact rfl; infer_instance; infer_instance; exact rowW; exact cells_size _ _; exact cells_size _ _; exact cells_one _ _; intro u4
      refine tail_nil ?_
      go_wp2_with (fail)
      obtain ⟨u5, hu5⟩ := KW.weak (h := Sub.skip (h := Sub.skip (h := Sub.both (h := Sub.both (h := Sub.both (h := Sub.nil)))))) u4
      rw [hu5]
      go_roundg r
      case measure => exact HL.out
      case rel => exact ⟨gk, u5, rfl, HN⟩
    · have hkB := wn_small (show wn gk ≤ 1 by omega)
      have FZ := Lib.hid (fun w => zero_any gk hG.out.2.1 w)
      generalize wn gk = n at *
      have hn3 : decide ((1 : Int) < n) = false := by simp; omega
      have hn2 : ¬ (1 : Int) < n := by omega
      by_cases h0 : gk = 0
      · subst h0
        have HE : Hid (Nat.gcd a b = x) := Lib.hid (by have := hG.out.2.2; rw [Nat.gcd_zero_right] at this; exact this.symm)
        have FZ' : Hid (∀ w, Calls Tryz.prog 27 #[wv 0] w (Ret (.bool true) w)) := Lib.hid (fun w => by have := FZ.out w; rw [eqB_same] at this; exact this)
        clear FZ hn hkB
        go_wp2_with (first
          | ((with_reducible apply lst_load); exact rfl; infer_instance; exact rowW; exact cells_size _ _)
          | ((with_reducible apply lst_store); exact rfl; exact rfl; infer_instance; exact rowW; exact cells_size _ _; exact cells_size _ _; exact cells_one _ _; intro _)
          | (go_at_call 59; (with_reducible refine (FN.out _).mono ?_); rintro e w' ⟨rfl, hb'⟩; obtain ⟨_, rfl⟩ := KW.go _ hb'; clear hb')
          | (go_at_call 27; (with_reducible refine (FZ'.out _).mono ?_); rintro e w' ⟨rfl, hb'⟩; obtain ⟨_, rfl⟩ := KW.go _ hb'; clear hb'))
        refine body_cell Tryz.results57 rfl rowW (cells_size _ _) ⟨?_, KW.below _⟩
        rw [HE.out]
      · have hp : 0 < gk := by omega
        have FZ' : Hid (∀ w, Calls Tryz.prog 27 #[wv gk] w (Ret (.bool false) w)) := Lib.hid (fun w => by have := FZ.out w; rw [show eqB gk 0 = false from decide_eq_false h0] at this; exact this)
        have FM := Lib.hid (fun w => overWord_any x gk (Lib.hid hG.out.1) (Lib.hid ⟨hp, hkB⟩) w)
        have hr : x % gk < B := Nat.lt_trans (Nat.mod_lt _ hp) hkB
        have FG := Lib.hid (fun w => gcdWords_any gk (x % gk) hkB hr w)
        have hg : Nat.gcd gk (x % gk) = Nat.gcd a b := by rw [← hG.out.2.2, Nat.gcd_comm x gk, Nat.gcd_rec gk x, Nat.gcd_comm]
        rw [hg] at FG
        have hgB : Nat.gcd a b < B := by rw [← hg]; exact Nat.lt_of_le_of_lt (Nat.gcd_le_left _ hp) hkB
        have FF := Lib.hid (fun w => of_any (Nat.gcd a b) (Lib.hid (by rw [← B_eq]; exact hgB)) w)
        have c0 := cells_at (show 0 < 8 by decide) (wd_self hkB)
        generalize Nat.gcd a b = d at *
        generalize x / gk = q at *
        generalize x % gk = r at *
        clear FZ hn hkB h0 hp hr hg hgB
        go_wp2_with (first
          | ((with_reducible apply list_alloc); exact zeroW; intro _ _)
          | ((with_reducible apply lst_load); exact rfl; infer_instance; exact rowW; exact cells_size _ _)
          | ((with_reducible apply lst_store); exact rfl; exact rfl; infer_instance; exact rowW; exact cells_size _ _; exact cells_size _ _; exact cells_one _ _; intro _)
          | (go_at_call 59; (with_reducible refine (FN.out _).mono ?_); rintro e w' ⟨rfl, hb'⟩; obtain ⟨_, rfl⟩ := KW.go _ hb'; clear hb')
          | (go_at_call 27; (with_reducible refine (FZ'.out _).mono ?_); rintro e w' ⟨rfl, hb'⟩; obtain ⟨_, rfl⟩ := KW.go _ hb'; clear hb')
          | (go_at_call 61; (with_reducible refine (FM.out _).mono ?_); rintro e w' ⟨rfl, hb'⟩; obtain ⟨_, rfl⟩ := KW.go _ hb'; clear hb')
          | (go_at_call 89; (with_reducible refine (FG.out _).mono ?_); rintro e w' ⟨rfl, hb'⟩; obtain ⟨_, rfl⟩ := KW.go _ hb'; clear hb')
          | (go_at_call 31; (with_reducible refine (FF.out _).mono ?_); rintro e w' ⟨rfl, hb'⟩; obtain ⟨_, rfl⟩ := KW.go _ hb'; clear hb'))
        exact body_cell Tryz.results57 rfl rowW (cells_size _ _) ⟨rfl, KW.below _⟩
end Go.Proofs.YtacicfmalhhceaaGreatDoor.QuotW

/- package quot: square roots: contracts over the translation. -/
namespace Go.Proofs.YtacicfmalhhceaaGreatDoor.QuotW
open Go.RowKit
open DigM WideM WideV KM DigW WideW QuotM
def RtRel (a E : Nat) (w : World) (g1 g2 g3 : Nat) (x : Nat) (wr : World) : Prop :=
  ∃ u : KW w [⟨g3, cells 8 x, 24⟩, ⟨g2, cells 8 0, 24⟩, ⟨g1, cells 8 a, 24⟩], wr = u.w ∧ Hid (0 < x ∧ a < (x + 1) * (x + 1) ∧ x ≤ E)
def RootPost (a : Nat) (w : World) (e : Ending) (w' : World) : Prop := ∃ x, e = .returned (wv x) ∧ Below w.heap.size w w' ∧ Hid (RootOf a x ∧ x < M ∧ (x + 1) * (x + 1) < 4 * M)
/-- where the root's search begins -/
theorem root_start {a : Nat} (ha : a < M) (h0 : 0 < a) : ∃ k E : Nat, (bl a + 1) / 2 = k ∧ k ≤ 256 ∧ shN 1 k = 2 ^ k ∧ 2 ^ k ≤ E ∧ E * E = M ∧ a < (2 ^ k + 1) * (2 ^ k + 1) := by
  obtain ⟨e, he⟩ : ∃ e : Nat, e = 256 := ⟨_, rfl⟩
  have hbl := bl_le ha
  have hM : 2 ^ e * 2 ^ e = M := by rw [← Nat.pow_add, ← M_two (e + e) (by omega)]
  have hk : (bl a + 1) / 2 ≤ e := by omega
  have hp : 2 ^ ((bl a + 1) / 2) ≤ 2 ^ e := Nat.pow_le_pow_right (by decide) hk
  refine ⟨(bl a + 1) / 2, 2 ^ e, rfl, by omega, ?_, hp, hM, ?_⟩
  · rw [sh_left, Nat.one_mul, low_of]
    rw [← hM]
    have h1 := Nat.two_pow_pos e
    have : 2 ≤ 2 ^ e := by
      have := Nat.pow_le_pow_right (show 0 < 2 by decide) (show 1 ≤ e by omega)
      rwa [Nat.pow_one] at this
    have := Nat.mul_le_mul this (Nat.le_refl (2 ^ e))
    omega
  · have h1 := (bl_BL a).1
    have h2 : 2 ^ bl a ≤ 2 ^ ((bl a + 1) / 2 + (bl a + 1) / 2) := Nat.pow_le_pow_right (by decide) (by omega)
    rw [Nat.pow_add] at h2
    have h3 := Nat.mul_le_mul (show 2 ^ ((bl a + 1) / 2) ≤ 2 ^ ((bl a + 1) / 2) + 1 by omega) (show 2 ^ ((bl a + 1) / 2) ≤ 2 ^ ((bl a + 1) / 2) + 1 by omega)
    omega
theorem root_small {a x E : Nat} (hE : E * E = M) (hx : x ≤ E) (hp : 0 < x) (h : a < (x + 1) * (x + 1)) : x < M ∧ x + a / x < M ∧ (x + 1) * (x + 1) < 4 * M := by
  have hq := root_quot hp h
  have hM : 16 ≤ M := by
    unfold M; rw [B_eq]; decide +kernel
  have hE4 : 4 ≤ E := by
    apply Nat.le_of_not_lt; intro hc
    have := Nat.mul_le_mul (show E ≤ 3 by omega) (show E ≤ 3 by omega)
    omega
  have h1 := Nat.mul_le_mul hE4 (Nat.le_refl E)
  have h2 := Nat.mul_le_mul (show x + 1 ≤ E + 1 by omega) (show x + 1 ≤ E + 1 by omega)
  have e : (E + 1) * (E + 1) = E * E + E + E + 1 := by rw [Nat.mul_add, Nat.add_mul]; omega
  refine ⟨by omega, by omega, by omega⟩
end Go.Proofs.YtacicfmalhhceaaGreatDoor.QuotW

/- package quot: a number's digits: contracts over the translation. -/
namespace KM
open Go Go.RowKit
theorem KW.grown_alloc {W : World} {L : List Ent} (u : KW W L) {o : Obj} {w' : World} {row : Option Nat} {B1 : Nat} (hg : (u.w.alloc o).grownBy w' row) (hr : ∀ k, row = some k → B1 ≤ k) (hW : W.heap.size ≤ B1) (hL : ∀ e ∈ L, e.g < B1) : ∃ u' : KW W L, w' = u'.w ∧ u.w.heap.size ≤ w'.heap.size := by
  obtain ⟨ua, hua⟩ := u.go ((Below.refl u.w.heap.size u.w).alloc (Nat.le_refl _) o)
  have hs : u.w.heap.size ≤ (u.w.alloc o).heap.size := by simp
  rw [hua] at hg hs
  obtain ⟨u', hu'⟩ := ua.grown hg hr hW hL
  exact ⟨u', hu', Nat.le_trans hs hg.size⟩
end KM
namespace Go.Proofs.YtacicfmalhhceaaGreatDoor.QuotW
open Go.RowKit
open DigM WideM WideV KM DigW WideW QuotM DecM FmtW
open Go.Lib (decDigits nDigits)
theorem ba_size (l : List UInt8) : (ByteArray.mk l.toArray).size = l.length := by simp [ByteArray.size]
theorem ba_append (l m : List UInt8) : ByteArray.mk l.toArray ++ ByteArray.mk m.toArray = ByteArray.mk (l ++ m).toArray := by
  apply ByteArray.ext
  rw [ByteArray.data_append]
  simp
theorem ba_ext {s t : ByteArray} (h : s.data.toList = t.data.toList) : s = t := ByteArray.ext (Array.toList_inj.1 h)
theorem ba_len (s : ByteArray) : s.size = s.data.toList.length := by rw [Array.length_toList]; rfl
theorem ret_str {a b : ByteArray} (h : a = b) : Ending.returned (.string a) = .returned (.string b) := by rw [h]
set_option maxHeartbeats 800000 in
theorem filled_any (n : Nat) (hn : Hid (n < 10000000000000000000)) (w : World) (ht : Tab w) : Calls Tryz.prog 77 #[.int .u64 n] w (Ret (.string ⟨(pad 19 n).toArray⟩) w) := by
  have hd19 : nDigits n ≤ 19 := nDig_le 18 n (by have := hn.out; omega)
  obtain ⟨s, hs⟩ : ∃ s : ByteArray, s = ⟨(decDigits n).toArray⟩ := ⟨_, rfl⟩
  have HF : Hid (∀ w, Tab w → Calls Tryz.prog 78 #[.int .u64 n, .int .i64 10] w (Ret (.string s) w)) := Lib.hid (fun w ht => by rw [hs]; exact fmt_any n w (Lib.hid (by have := hn.out; omega)) ht)
  have hsz : s.size = nDigits n := by rw [hs, ba_size, Lib.decDigits_length]
  obtain ⟨x, hx⟩ : ∃ x : ByteArray, x = ⟨(List.replicate (19 - nDigits n) 48).toArray⟩ := ⟨_, rfl⟩
  have hxz : x.size = 19 - nDigits n := by rw [hx, ba_size, List.length_replicate]
  have HE : Hid (x ++ s = ⟨(pad 19 n).toArray⟩) := Lib.hid (by rw [hx, hs, ba_append]; rfl)
  have FR : ∀ w, Calls Tryz.prog 117 #[.string ⟨#[48]⟩, .int .i64 (19 - (nDigits n : Int))] w (Ret (.string x) w) := fun w => by
    have := Tryz.strings_Repeat ⟨#[48]⟩ (19 - nDigits n) w (by omega) (by rw [show (ByteArray.mk #[48]).size = 1 from rfl]; omega)
    rw [show ((19 - nDigits n : Nat) : Int) = 19 - (nDigits n : Int) by omega, show (ByteArray.mk #[48]).data.toList = [48] from rfl, repeat48, ← hx] at this
    exact this
  have HFR := Lib.hid FR
  have HT := Lib.hid ht
  generalize nDigits n = d at *
  clear FR hs hx ht
  go_enter Tryz.func77, Tryz.ntmps77
  go_wp2_with (fail)
  refine (HF.out _ HT.out).mono ?_
  rintro e w1 ⟨rfl, b1⟩
  go_wp2_with (fail)
  refine (HFR.out _).mono ?_
  rintro e w2 ⟨rfl, b2⟩
  go_wp2_with (fail)
  go_ret
  exact ⟨ret_str HE.out, b1.trans (b2.mono b1.size)⟩
end Go.Proofs.YtacicfmalhhceaaGreatDoor.QuotW

/- package quot: a number's digits, in groups: a contract over the translation. -/
namespace Go.Proofs.YtacicfmalhhceaaGreatDoor.QuotW
open Go.RowKit
open DigM WideM WideV KM DigW WideW QuotM DecM FmtW
open Go.Lib (decDigits nDigits)
theorem infoS : (Tryz.prog.info? 9).map (fun i => (i.zero, i.size, i.bytes)) = some (some (.string ⟨#[]⟩), 1, 16) := by kernel_rfl
abbrev vs (g : List UInt8) : Value := .string ⟨g.toArray⟩
/-- texts that a call made and owns, in new memory -/
def OwnS (B : Nat) (w : World) (v : Value) (gs : List (List UInt8)) : Prop := w.ownsRow B 9 1 v gs.length (gs.map vs)
theorem OwnS.nil (B : Nat) (w : World) : OwnS B w (.slice none 0 0) [] := World.ownsRow_nil _ _ _ _
theorem OwnS.snoc {B : Nat} {w : World} {v : Value} {gs : List (List UInt8)} {g : List UInt8} (h : w.ownsRow B 9 1 v (gs.length + 1) (gs.map vs ++ [vs g])) : OwnS B w v (gs ++ [g]) := by
  unfold OwnS; rw [List.length_append, List.map_append]; exact h
theorem OwnS.keep {B : Nat} {w w' : World} {v : Value} {gs : List (List UInt8)} (h : OwnS B w v gs) (hk : ∀ k, B ≤ k → k < w.heap.size → w'.heap[k]? = w.heap[k]?) : OwnS B w' v gs := by
  have hlt := h.lt
  obtain ⟨h1, h2 | ⟨g, cap, cur, e, hB, hg, h3⟩⟩ := h
  · exact ⟨h1, Or.inl h2⟩
  · refine ⟨h1, .inr ⟨g, cap, cur, e, hB, ?_, h3⟩⟩
    rw [hk g hB (hlt g (by rw [e]; rfl)).2]; exact hg
theorem OwnS.later {B : Nat} {w w' : World} {v : Value} {gs : List (List UInt8)} (h : OwnS B w v gs) (hb : Below w.heap.size w w') : OwnS B w' v gs := h.keep fun k _ hk => hb.block k hk
/-- a slice that reads as texts -/
def RdS (w : World) (v : Value) (gs : List (List UInt8)) : Prop :=
  ∃ a cap, v = .slice a gs.length cap ∧ ∀ j (h : j < gs.length), ∃ g o, a = some ⟨g, o, none⟩ ∧ w.cell? ⟨g, o + j, none⟩ = some (vs gs[j])
theorem OwnS.rd {B : Nat} {w : World} {v : Value} {gs : List (List UInt8)} (h : OwnS B w v gs) : RdS w v gs := by
  have hc := fun g => World.ownsRow.cells h (g := g)
  obtain ⟨_, ⟨rfl, hn⟩ | ⟨g, cap, cur, rfl, hB, _, hcp, hcm, _, _⟩⟩ := h
  · exact ⟨none, 0, by rw [hn], fun j hj => by omega⟩
  · refine ⟨some ⟨g, 0, none⟩, cap, rfl, fun j hj => ⟨g, 0, rfl, ?_⟩⟩
    have := hc g rfl j (vs gs[j]) (by simp [hj])
    rw [Nat.zero_add]
    cases j with
    | zero => simpa [Addr.add] using this
    | succ j => simpa [Addr.add] using this
/-- the groups that are parted off a -/
def Parts (a k : Nat) (gs : List (List UInt8)) : Prop := decDigits a = decDigits k ++ back gs ∧ (∀ g ∈ gs, g.length = 19) ∧ k * 10 ^ (19 * gs.length) ≤ a ∧ (gs = [] ∨ 0 < k)
theorem Parts.start (a : Nat) : Parts a a [] := ⟨by simp [back], fun g h => by simp at h, by simp, Or.inl rfl⟩
theorem Parts.few {a k : Nat} {gs : List (List UInt8)} (h : Parts a k gs) (ha : a < M) : gs.length ≤ 8 := by
  obtain ⟨_, _, h3, h4⟩ := h
  apply Nat.le_of_not_lt; intro hc
  rcases h4 with rfl | h4
  · simp at hc
  · have h5 : 10 ^ (19 * 9) ≤ 10 ^ (19 * gs.length) := Nat.pow_le_pow_right (by decide) (by omega)
    have h6 := Nat.mul_le_mul h4 h5
    have h7 : M ≤ 10 ^ (19 * 9) := by unfold M; rw [B_eq]; decide +kernel
    rw [Nat.one_mul] at h6
    have h8 : a < 10 ^ (19 * 9) := Nat.lt_of_lt_of_le ha h7
    generalize 10 ^ (19 * 9) = x at *
    generalize k * 10 ^ (19 * gs.length) = y at *
    exact absurd (Nat.le_trans h6 h3) (Nat.not_le_of_lt h8)
theorem Parts.next {a k : Nat} {gs : List (List UInt8)} (h : Parts a k gs) (hk : B ≤ k) : Parts a (k / 10000000000000000000) (gs ++ [pad 19 (k % 10000000000000000000)]) := by
  obtain ⟨h1, h2, h3, h4⟩ := h
  have hB : 10000000000000000000 < B := by rw [B_eq]; decide
  have e : (10 : Nat) ^ (18 + 1) = 10000000000000000000 := by decide
  refine ⟨?_, ?_, ?_, Or.inr (by omega)⟩
  · have hg := dec_group 18 k (by rw [e]; omega)
    rw [e] at hg
    rw [h1, back_snoc, hg, List.append_assoc]
  · intro g hg
    rcases List.mem_append.1 hg with hg | hg
    · exact h2 g hg
    · rw [List.mem_singleton.1 hg]
      exact pad_length (nDig_le 18 _ (by rw [e]; omega))
  · rw [List.length_append, List.length_singleton, Nat.mul_add, Nat.mul_one, Nat.pow_add, Nat.mul_comm (10 ^ (19 * gs.length)), ← Nat.mul_assoc]
    have e2 : (10 : Nat) ^ 19 = 10000000000000000000 := by decide
    rw [e2]
    have := Nat.mul_le_mul_right (10 ^ (19 * gs.length)) (show k / 10000000000000000000 * 10000000000000000000 ≤ k by omega)
    exact Nat.le_trans this h3
def TxRel (a : Nat) (w : World) (g1 B1 : Nat) (k : Nat) (v : Value) (wr : World) : Prop :=
  ∃ (gs : List (List UInt8)) (u : KW w [⟨g1, cells 8 k, 24⟩]), wr = u.w ∧ OwnS B1 u.w v gs ∧ B1 ≤ u.w.heap.size ∧ Hid (Parts a k gs ∧ k < M)
def TyRel (k : Nat) (gs : List (List UInt8)) (w1 : World) (t i : Value) (wr : World) : Prop :=
  ∃ (m : Nat) (s : ByteArray), i = .int .i64 ((m : Int) - 1) ∧ t = .string s ∧ wr = w1 ∧ m ≤ gs.length ∧ s.size ≤ 1000 - 20 * m ∧ Hid (s.data.toList = decDigits k ++ back (gs.drop m))
set_option maxRecDepth 100000 in
set_option maxHeartbeats 3200000 in
theorem text_any (a : Nat) (ha : Hid (a < M)) (w : World) (ht : Tab w) : Calls Tryz.prog 47 #[wv a] w (Ret (vs (decDigits a)) w) := by
  have HT := Lib.hid ht
  clear ht
  obtain ⟨i0, hi, hz0, hz1, hz2⟩ := info_parts infoS
  unfold wv
  refine enter fun u => ?_
  go_enter Tryz.func47, Tryz.ntmps47
  go_wp2_with (first
    | ((with_reducible apply list_box); exact rfl; intro _ _))
  rename_i g1 u1 _ _
  have hg1 : g1 < u1.w.heap.size := u1.lt
  have hW : w.heap.size ≤ u1.w.heap.size := u1.size
  go_loopg [3] a (fun k v wr => TxRel a w g1 u1.w.heap.size k v wr)
  case atStart => exact ⟨[], u1, rfl, OwnS.nil _ _, Nat.le_refl _, Lib.hid ⟨Parts.start a, ha.out⟩⟩
  case round =>
    generalize u1.w.heap.size = B1 at *
    clear u1
    obtain ⟨gs, u1, rfl, hown, hB, hP⟩ := hrel
    have FN := Lib.hid (fun w => wordsOf_any gk (Lib.hid hP.out.2) w)
    have hlen := hP.out.1.few ha.out
    by_cases hn : 1 < wn gk
    · have hkB := wn_big hn
      have H10 : Hid (0 < 10000000000000000000 ∧ 10000000000000000000 < B) := Lib.hid ⟨by decide, by rw [B_eq]; decide⟩
      have FM : Hid (∀ w, Calls Tryz.prog 61 #[wv gk, .int .u64 10000000000000000000] w (Ret (.tuple #[wv (gk / 10000000000000000000), .int .u64 (gk % 10000000000000000000 : Nat)]) w)) := Lib.hid (fun w => overWord_any gk 10000000000000000000 (Lib.hid hP.out.2) H10 w)
      have FF : Hid (∀ w, Tab w → Calls Tryz.prog 77 #[.int .u64 (gk % 10000000000000000000 : Nat)] w (Ret (vs (pad 19 (gk % 10000000000000000000))) w)) := Lib.hid (fun w ht => filled_any _ (Lib.hid (Nat.mod_lt _ (by decide))) w ht)
      have HN := Lib.hid (hP.out.1.next hkB)
      have HL : Hid (gk / 10000000000000000000 < gk ∧ gk / 10000000000000000000 < M) := Lib.hid (by have := hP.out.2; have := B_pos; omega)
      generalize wn gk = n at *
      have hn2 : (1 : Int) < n := by omega
      generalize gk / 10000000000000000000 = q at *
      generalize gk % 10000000000000000000 = r at *
      generalize pad 19 r = pg at *
      clear hkB hn H10
      go_wp2_with (first
        | ((with_reducible apply lst_load); exact rfl; infer_instance; exact rowW; exact cells_size _ _))
      refine (FN.out _).mono ?_
      rintro e w' ⟨rfl, b1⟩
      have o1 := hown.later b1
      have s1 := b1.size
      obtain ⟨u2, rfl⟩ := u1.go b1
      clear hown b1
      go_wp2_with (first
        | ((with_reducible apply lst_load); exact rfl; infer_instance; exact rowW; exact cells_size _ _))
      refine (FM.out _).mono ?_
      rintro e w' ⟨rfl, b2⟩
      have o2 := o1.later b2
      have s2 := b2.size
      obtain ⟨u3', rfl⟩ := u2.go b2
      clear o1 b2
      go_wp2_with (first
        | ((with_reducible apply lst_store_k); exact rfl; exact rfl; infer_instance; exact rowW; exact cells_size _ _; exact cells_size _ _; exact cells_one _ _; intro u4 hk4 hb4))
      have o4 := o2.keep (fun k hk _ => hk4 k (by omega))
      have hs4 := (hb4 0 (Nat.zero_le _)).size
      clear o2 hk4 hb4
      refine (FF.out _ (HT.out.later (KW.below _) (Nat.le_refl _))).mono ?_
      rintro e w' ⟨rfl, b5⟩
      have o5 := o4.later b5
      have s5 := b5.size
      obtain ⟨u5, rfl⟩ := u4.go b5
      have hB5 : B1 ≤ u5.w.heap.size := by omega
      clear o4 b5
      go_wp2_with (first
        | (at_builtin; refine wpList_append_own _ rfl _ _ 104 rfl B1 9 i0 (.string ⟨#[]⟩) 1 16 Tryz.underlying104 hi hz0 hz1 hz2 rfl (by decide) _ _ _ rfl (World.ownsRow.alloc o5 _) ⟨u5.w.heap.size, 0, none⟩ 1 1 [vs pg] rfl rfl ?c1 ?c2 ?c3 ?c4 ?c5 ?_))
      case c1 =>
        intro j u hj
        match j, hj with
        | 0, hj => simp at hj; subst hj; simp [Addr.add]
      case c2 => intro u hu; simp at hu; subst hu; rfl
      case c3 => unfold maxLen; omega
      case c4 => omega
      case c5 => simp; omega
      intro v' w6 hown' hgrow _
      obtain ⟨u6, hu6, hs6⟩ := u5.grown_alloc hgrow (fun j hj => (o5.lt j hj).1) hW (fun e he => by simp at he; subst he; exact hg1)
      have o6 := OwnS.snoc hown'
      subst hu6
      have hB6 : B1 ≤ u6.w.heap.size := by omega
      clear hgrow hown' o5 FN FM FF
      go_wp2_with (fail)
      go_roundg q
      case measure => exact HL.out.1
      case rel => exact ⟨_, u6, rfl, o6, hB6, Lib.hid ⟨HN.out, HL.out.2⟩⟩
    · have hkB := wn_small (show wn gk ≤ 1 by omega)
      have c0 := cells_at (show 0 < 8 by decide) (wd_self hkB)
      have FT : Hid (∀ w, Tab w → Calls Tryz.prog 78 #[.int .u64 gk, .int .i64 10] w (Ret (vs (decDigits gk)) w)) := Lib.hid (fun w ht => fmt_any gk w (Lib.hid (by rw [← B_eq]; exact hkB)) ht)
      have hd20 : (decDigits gk).length ≤ 20 := by rw [Lib.decDigits_length]; exact nDig_le 19 gk (by rw [B_eq] at hkB; omega)
      generalize wn gk = n at *
      have hn3 : decide ((1 : Int) < n) = false := by simp; omega
      have hn2 : ¬ (1 : Int) < n := by omega
      clear hkB hn
      go_wp2_with (first
        | ((with_reducible apply lst_load); exact rfl; infer_instance; exact rowW; exact cells_size _ _))
      refine (FN.out _).mono ?_
      rintro e w' ⟨rfl, b1⟩
      have o1 := hown.later b1
      obtain ⟨u2, rfl⟩ := u1.go b1
      clear hown b1
      go_wp2_with (fail)
      refine (FT.out _ (HT.out.later (KW.below _) (Nat.le_refl _))).mono ?_
      rintro e w' ⟨rfl, b2⟩
      have o2 := o1.later b2
      obtain ⟨u3', rfl⟩ := u2.go b2
      clear o1 b2
      obtain ⟨av, cap, rfl, hrd⟩ := o2.rd
      have HRD := Lib.hid hrd
      have H8 := Lib.hid hP.out.1
      have HG19 : Hid (∀ g ∈ gs, g.length = 19) := Lib.hid hP.out.1.2.1
      clear hrd o2
      obtain ⟨s0, hs0⟩ : ∃ s0 : ByteArray, s0 = ⟨(decDigits gk).toArray⟩ := ⟨_, rfl⟩
      have hz0' : s0.size ≤ 20 := by rw [hs0, ba_size]; exact hd20
      have HS0 : Hid (s0.data.toList = decDigits gk ++ back (gs.drop gs.length)) := Lib.hid (by rw [hs0, back_none, List.append_nil])
      unfold vs
      rw [← hs0]
      clear hs0 FT FN
      go_wp2_with (fail)
      go_loopw [5, 6] (TyRel gk gs u3'.w) (fun _ i _ => (intOf i + 1).toNat)
      case atStart => exact ⟨gs.length, s0, rfl, rfl, rfl, Nat.le_refl _, by omega, HS0⟩
      case round =>
        clear HS0 hz0' hd20
        obtain ⟨m, s, rfl, rfl, rfl, hm, hsz, hS⟩ := hrel
        cases m with
        | zero =>
          have HE : Hid (s = ⟨(decDigits a).toArray⟩) := Lib.hid (ba_ext (by rw [hS.out, List.drop_zero, H8.out.1]))
          go_wp2_with (fail)
          go_ret
          exact ⟨ret_str HE.out, KW.below _⟩
        | succ j =>
          have ej : ((j + 1 : Nat) : Int) - 1 = j := by omega
          rw [ej]
          clear ej
          obtain ⟨g, o, rfl, hcell⟩ := HRD.out j (by omega)
          have hj0 : (0 : Int) ≤ j := by omega
          have hjl : (j : Int) < gs.length := by omega
          have hgl : gs[j].length = 19 := HG19.out _ (List.getElem_mem _)
          have hbd : Hid (back (gs.drop j) = back (gs.drop (j + 1)) ++ gs[j]) := Lib.hid (back_drop (by omega))
          obtain ⟨x, hx⟩ : ∃ x : ByteArray, x = ⟨gs[j].toArray⟩ := ⟨_, rfl⟩
          have hxz : x.size = 19 := by rw [hx, ba_size]; exact hgl
          have HX : Hid (x.data.toList = gs[j]) := Lib.hid (by rw [hx])
          unfold vs at hcell
          rw [← hx] at hcell
          have HN : Hid ((s ++ x).data.toList = decDigits gk ++ back (gs.drop j)) := Lib.hid (by rw [ByteArray.data_append, Array.toList_append, hS.out, HX.out, hbd.out, List.append_assoc])
          have HZ : (s ++ x).size = s.size + x.size := by rw [ByteArray.size_append]
          clear hx hgl
          go_wp2_with (fail)
          go_roundw
          case rel => exact ⟨j, s ++ x, by go_num, rfl, rfl, by omega, by omega, HN⟩
          case measure => simp [intOf]
end Go.Proofs.YtacicfmalhhceaaGreatDoor.QuotW

/- The document's own answers of layer 4: quotient and rest: a contract over the translation. -/
namespace Go.Proofs.YtacicfmalhhceaaGreatDoor.QuotW
open Go.RowKit
open DigM WideM WideV KM DigW WideW QuotM
set_option maxRecDepth 100000 in
set_option maxHeartbeats 3200000 in
theorem refOver_any (a b : Nat) (ha : Hid (a < M)) (hb : Hid (b < M)) (hp : Hid (0 < b)) (w : World) : Calls Tryz.prog 40 #[wv a, wv b] w (Ret (.tuple #[wv (a / b), wv (a % b)]) w) := by
  have HDA := Lib.hid (fun w => digits32_any a ha w)
  have HDB := Lib.hid (fun w => digits32_any b hb w)
  have HQ : Hid (low (a / b) = a / b) := Lib.hid (low_of (Nat.lt_of_le_of_lt (Nat.div_le_self a b) ha.out))
  have HR : Hid (low (a % b) = a % b) := Lib.hid (low_of (Nat.lt_trans (Nat.mod_lt _ hp.out) hb.out))
  unfold wv
  refine enter fun u => ?_
  go_enter Tryz.func40, Tryz.ntmps40
  go_wp2_with (first
    | ((with_reducible apply list_box); exact rfl; intro _ _)
    | ((with_reducible apply list_alloc); exact zeroW; intro _ _))
  simp only [Act.put, List.setIfInBounds_toArray, List.set_cons_succ, List.set_cons_zero]
  refine region_mix [(true, 0), (true, 2), (false, 1), (false, 3), (false, 4), (true, 5), (true, 6), (true, 7), (false, 8), (false, 9)] _ (Sub.both (h := Sub.both (h := Sub.both (h := Sub.both (h := Sub.nil))))) (by kernel_rfl) (by kernel_rfl) (fun _ _ _ _ _ h => by first | (simp only [Exit.then, bodyPost, defers_put] at h ⊢; exact h) | (simp only [Exit.then, Exit.inBlock, bodyPost, defers_put] at h ⊢; exact h)) ?_
  intro u2 _
  simp only [picks, List.filterMap_cons, List.filterMap_nil, List.getElem?_cons_zero, List.getElem?_cons_succ, Option.map_some]
  (with_reducible apply mix_load); exact rfl; infer_instance; exact rowW; exact cells_size _ _
  (with_reducible apply mix_load); exact rfl; infer_instance; exact rowW; exact cells_size _ _
  simp only [Act.put, List.setIfInBounds_toArray, List.set_cons_succ, List.set_cons_zero]
  refine mix_enter (f := 68) (args := #[wv a]) (by go_simp) ?_
  refine (HDA.out _).mono ?_
  rintro e w1 ⟨v1, x, rfl, ⟨hx1, hx2, hx3⟩, o1, b1⟩
  obtain ⟨u3, rfl⟩ := u2.go b1
  refine ⟨v1, rfl, ⟨u3, rfl⟩, ?_⟩
  simp only [Act.put, List.setIfInBounds_toArray, List.set_cons_succ, List.set_cons_zero]
  refine mix_enter (f := 68) (args := #[wv b]) (by go_simp) ?_
  refine (HDB.out _).mono ?_
  rintro e w2 ⟨v2, y, rfl, ⟨hy1, hy2, hy3⟩, o2, b2⟩
  have R1 := o1.rd.later b2 (Nat.le_refl _)
  obtain ⟨u4, rfl⟩ := u3.go b2
  refine ⟨v2, rfl, ⟨u4, rfl⟩, ?_⟩
  simp only [Act.put, List.setIfInBounds_toArray, List.set_cons_succ, List.set_cons_zero]
  refine mix_enter (f := 69) (args := #[v1, v2]) (by go_simp) ?_
  refine (over_any _ _ x y _ R1 o2.rd hx1 hy1 (by rw [hy2]; exact hp.out) (by omega) (by omega)).mono ?_
  rintro e w3 ⟨v3, v4, qs, rs, rfl, gq, gr, hvq, hvr, hlq, hlr, o3, o4, b3⟩
  rw [hx2, hy2] at hvq hvr
  have hlq' : qs.length ≤ 1048576 := by omega
  have hlr' : rs.length ≤ 1048576 := by omega
  have RQ := o3.rd
  have RR := o4.rd
  have HVQ := Lib.hid hvq
  have HVR := Lib.hid hvr
  obtain ⟨u5, rfl⟩ := u4.go b3
  refine ⟨_, rfl, ⟨u5, rfl⟩, ?_⟩
  clear hvq hvr hlq hlr o1 o2 o3 o4 b1 b2 b3 R1 hx1 hx2 hx3 hy1 hy2 hy3
  simp only [Act.put, List.setIfInBounds_toArray, List.set_cons_succ, List.set_cons_zero]
  refine mix_value (v := .tuple #[v3, v4]) (by intro w; go_simp) ?_
  simp only [Act.put, List.setIfInBounds_toArray, List.set_cons_succ, List.set_cons_zero]
  refine mix_value (v := v3) (by intro w; go_simp) ?_
  simp only [Act.put, List.setIfInBounds_toArray, List.set_cons_succ, List.set_cons_zero]
  refine mix_value (v := v4) (by intro w; go_simp) ?_
  simp only [Act.put, List.setIfInBounds_toArray, List.set_cons_succ, List.set_cons_zero]
  refine mix_then (v := v3) (by go_simp) ⟨u5, rfl⟩ ?_
  simp only [Act.put, List.setIfInBounds_toArray, List.set_cons_succ, List.set_cons_zero]
  refine mix_then (v := v4) (by go_simp) ⟨u5, rfl⟩ ?_
  simp only [Act.put, List.setIfInBounds_toArray, List.set_cons_succ, List.set_cons_zero]
  refine mix_nil ?_
  go_wp2_with (fail)
  have FQ := refWide_any v3 qs u5.w RQ gq hlq'
  rw [HVQ.out, HQ.out] at FQ
  refine FQ.mono ?_
  rintro e w6 ⟨rfl, b6⟩
  have RR' := RR.later b6 (Nat.le_refl _)
  obtain ⟨u6, rfl⟩ := u5.go b6
  clear FQ RQ RR b6
  go_wp2_with (first
    | ((with_reducible apply list_alloc_n); exact zeroW; intro g8 u7 hg8 b7)
    | ((with_reducible apply lst_store_k); exact rfl; exact rfl; infer_instance; exact rowW; exact cells_size _ _; exact cells_size _ _; exact cells_one _ _; intro u8 _ hb8))
  have RR2 := RR'.later (b7.trans (hb8 _ hg8)) (Nat.le_refl _)
  clear b7 hb8 RR'
  have FR := refWide_any v4 rs u8.w RR2 gr hlr'
  rw [HVR.out, HR.out] at FR
  refine FR.mono ?_
  rintro e w9 ⟨rfl, b9⟩
  obtain ⟨u9, rfl⟩ := u8.go b9
  clear FR RR2 b9
  go_wp2_with (first
    | ((with_reducible apply list_alloc); exact zeroW; intro g10 u10)
    | ((with_reducible apply lst_store); exact rfl; exact rfl; infer_instance; exact rowW; exact cells_size _ _; exact cells_size _ _; exact cells_one _ _; intro u11))
  refine region_any [0, 1] [2, 3] _ (Sub.both (h := Sub.both (h := Sub.nil))) (by kernel_rfl) (by kernel_rfl) ?_
  simp only [pick, List.filterMap_cons, List.filterMap_nil, List.getElem?_cons_zero, List.getElem?_cons_succ]
  (with_reducible apply head_load); exact rfl; infer_instance; exact rowW; exact cells_size _ _
  (with_reducible apply head_load); exact rfl; infer_instance; exact rowW; exact cells_size _ _
  refine head_nil ?_
  (with_reducible apply tailS_store); exact rfl; exact rfl; infer_instance; infer_instance; exact rowW; exact cells_size _ _; exact cells_size _ _; exact cells_one _ _
  (with_reducible apply tailS_store); exact rfl; exact rfl; infer_instance; infer_instance; exact rowW; exact cells_size _ _; exact cells_size _ _; exact cells_one _ _
  refine tailS_nil fun u12 => ?_
  go_wp2_with (fail)
  exact body_cell2 Tryz.results40 rfl rfl rowW (cells_size _ _) rowW (cells_size _ _) ⟨rfl, KW.below _⟩
end Go.Proofs.YtacicfmalhhceaaGreatDoor.QuotW

/- The document's own answers of layer 4: what divides two numbers most; a number's digits: contracts over the translation. -/
namespace Go.Proofs.YtacicfmalhhceaaGreatDoor.QuotW
open Go.RowKit
open DigM WideM WideV KM DigW WideW QuotM DecM
open Go.Lib (decDigits nDigits)
theorem eql0 (y : Nat) (hy : y < M) (w : World) : (Op.equalIn 10000 24 (.agg (cells 8 y)) (.agg #[.int .u64 0, .int .u64 0, .int .u64 0, .int .u64 0, .int .u64 0, .int .u64 0, .int .u64 0, .int .u64 0])).run Tryz.prog w = .ok (eqB y 0) w := by
  have := eqlW y 0 hy M_pos w
  rw [← nought] at this
  exact this
def GrRel (a b : Nat) (w : World) (g2 g3 g4 : Nat) (i : Value) (wr : World) : Prop :=
  ∃ (k x y : Nat) (u : KW w [⟨g4, cells 8 0, 24⟩, ⟨g3, cells 8 y, 24⟩, ⟨g2, cells 8 x, 24⟩]), i = .int .i64 k ∧ k < 1000 ∧ wr = u.w ∧
    Hid (x < M ∧ y < M ∧ Nat.gcd x y = Nat.gcd a b ∧ ((k = 0 ∧ y = b) ∨ ∃ j, k = j + 1 ∧ RestsW b j x y))
set_option maxRecDepth 100000 in
set_option maxHeartbeats 3200000 in
theorem refGcd_any (a b : Nat) (ha : Hid (a < M)) (hb : Hid (b < M)) (w : World) : Calls Tryz.prog 39 #[wv a, wv b] w (Ret (wv (Nat.gcd a b)) w) := by
  unfold wv
  refine enter fun u => ?_
  go_enter Tryz.func39, Tryz.ntmps39
  go_wp2_with (first
    | ((with_reducible apply list_box); exact rfl; intro _ _)
    | ((with_reducible apply list_alloc); exact zeroW; intro _ _))
  rename_i g2 x2 g3 x3 g4 u4 _ _
  go_loopw [5] (GrRel a b w g2 g3 g4) (fun i _ => 1000 - (intOf i).toNat)
  case atStart => exact ⟨0, a, b, u4, rfl, by decide, rfl, Lib.hid ⟨ha.out, hb.out, rfl, Or.inl ⟨rfl, rfl⟩⟩⟩
  case round =>
    clear x2 x3 u4
    obtain ⟨k, x, y, u, rfl, hk, rfl, hG⟩ := hrel
    have hk1 : (k : Int) < 1000 := by omega
    have heq := eql0 y hG.out.2.1
    by_cases h0 : y = 0
    · subst h0
      rw [eqB_same] at heq
      have HE : Hid (Nat.gcd a b = x) := Lib.hid (by have := hG.out.2.2.1; rw [Nat.gcd_zero_right] at this; exact this.symm)
      go_wp2_with (first
        | ((with_reducible apply lst_load); exact rfl; infer_instance; exact rowW; exact cells_size _ _)
        | ((with_reducible apply lst_store); exact rfl; exact rfl; infer_instance; exact rowW; exact cells_size _ _; exact cells_size _ _; exact cells_one _ _; intro _))
      refine body_cell Tryz.results39 rfl rowW (cells_size _ _) ⟨?_, KW.below _⟩
      rw [HE.out]
    · rw [show eqB y 0 = false from decide_eq_false h0] at heq
      have hp : 0 < y := by omega
      have FO := Lib.hid (fun w => refOver_any x y (Lib.hid hG.out.1) (Lib.hid hG.out.2.1) (Lib.hid hp) w)
      have hr : RestsW b k y (x % y) := by
        rcases hG.out.2.2.2 with ⟨rfl, rfl⟩ | ⟨j, rfl, hj⟩
        · exact RestsW.start hp
        · exact hj.next hp
      have hk2 := hr.few hb.out
      have HN : Hid (y < M ∧ x % y < M ∧ Nat.gcd y (x % y) = Nat.gcd a b ∧ ((k + 1 = 0 ∧ x % y = b) ∨ ∃ j, k + 1 = j + 1 ∧ RestsW b j y (x % y))) :=
        Lib.hid ⟨hG.out.2.1, Nat.lt_trans (Nat.mod_lt _ hp) hG.out.2.1, by rw [← hG.out.2.2.1, Nat.gcd_comm x y, Nat.gcd_rec y x, Nat.gcd_comm], Or.inr ⟨k, rfl, hr⟩⟩
      generalize x / y = q at *
      generalize x % y = r at *
      clear hr h0 hp
      go_wp2_with (first
        | ((with_reducible apply list_alloc); exact zeroW; intro _ _)
        | ((with_reducible apply lst_load); exact rfl; infer_instance; exact rowW; exact cells_size _ _)
        | ((with_reducible apply lst_store); exact rfl; exact rfl; infer_instance; exact rowW; exact cells_size _ _; exact cells_size _ _; exact cells_one _ _; intro _)
        | (go_at_call 40; (with_reducible refine (FO.out _).mono ?_); rintro e w' ⟨rfl, hb'⟩; obtain ⟨_, rfl⟩ := KW.go _ hb'; clear hb'))
      clear heq
      try simp only [Act.put, List.setIfInBounds_toArray, List.set_cons_succ, List.set_cons_zero]
      refine region_any [1] [0, 2, 3] _ (Sub.both (h := Sub.skip (h := Sub.skip (h := Sub.skip (h := Sub.skip (h := Sub.nil)))))) (by kernel_rfl) (by kernel_rfl) ?_
      simp only [pick, List.filterMap_cons, List.filterMap_nil, List.getElem?_cons_zero, List.getElem?_cons_succ]
      (with_reducible apply head_load); exact rfl; infer_instance; exact rowW; exact cells_size _ _
      refine head_nil ?_
      (with_reducible apply tailS_load); exact rfl; infer_instance; infer_instance; exact rowW; exact cells_size _ _
      (with_reducible apply tailS_store); exact rfl; exact rfl; infer_instance; infer_instance; exact rowW; exact cells_size _ _; exact cells_size _ _; exact cells_one _ _
      (with_reducible apply tailS_store); exact rfl; exact rfl; infer_instance; infer_instance; exact rowW; exact cells_size _ _; exact cells_size _ _; exact cells_one _ _
      refine tailS_nil fun u4 => ?_
      simp only [Act.put, List.setIfInBounds_toArray, List.set_cons_succ, List.set_cons_zero]
      go_wp2_with (fail)
      obtain ⟨u5, hu5⟩ := KW.weak (h := Sub.skip (h := Sub.skip (h := Sub.both (h := Sub.both (h := Sub.both (h := Sub.nil)))))) u4
      rw [hu5]
      go_roundw
      case rel => exact ⟨k + 1, y, r, u5, by go_num, by omega, rfl, HN⟩
      case measure => simp [intOf]; omega
theorem ten8 : (#[.int .u64 10, .int .u64 0, .int .u64 0, .int .u64 0, .int .u64 0, .int .u64 0, .int .u64 0, .int .u64 0] : Array Value) = cells 8 10 := by kernel_rfl
theorem cut10 (k : Nat) (h : k < 10) : (ByteArray.mk #[48, 49, 50, 51, 52, 53, 54, 55, 56, 57]).extract k (k + 1) = ⟨#[UInt8.ofNat (48 + k)]⟩ := by
  revert k; decide +kernel
theorem app10 (k : Nat) (h : k < 10) (s : List UInt8) : (ByteArray.mk #[48, 49, 50, 51, 52, 53, 54, 55, 56, 57]).extract k (k + 1) ++ ⟨s.toArray⟩ = ⟨(UInt8.ofNat (48 + k) :: s).toArray⟩ := by
  rw [cut10 k h]
  apply ByteArray.ext
  rw [ByteArray.data_append]
  simp
/-- behind k digits -/
def TextW (a k x : Nat) (s : List UInt8) : Prop := decDigits a = decDigits x ++ s ∧ s.length = k ∧ x < M
theorem TextW.few {a k x : Nat} {s : List UInt8} (h : TextW a k x s) (ha : a < M) : k < 155 := by
  obtain ⟨h1, h2, _⟩ := h
  have h3 := congrArg List.length h1
  rw [List.length_append, Lib.decDigits_length, Lib.decDigits_length] at h3
  have h4 := Lib.nDigits_pos x
  have h5 : M ≤ 10 ^ (154 + 1) := by unfold M; rw [B_eq]; decide +kernel
  have h6 := nDig_le 154 a (Nat.lt_of_lt_of_le ha h5)
  omega
theorem TextW.next {a k x : Nat} {s : List UInt8} (h : TextW a k x s) (hx : 10 ≤ x) : TextW a (k + 1) (x / 10) (UInt8.ofNat (48 + x % 10) :: s) := by
  obtain ⟨h1, h2, h3⟩ := h
  refine ⟨by rw [h1, dec_big hx, List.append_assoc]; rfl, by rw [List.length_cons, h2], by omega⟩
theorem TextW.last {a k x : Nat} {s : List UInt8} (h : TextW a k x s) (hx : x < 10) : decDigits a = UInt8.ofNat (48 + x) :: s := by
  rw [h.1, dec_small hx]; rfl
def RxRel (a : Nat) (w : World) (g1 : Nat) (t i : Value) (wr : World) : Prop :=
  ∃ (k x : Nat) (s : List UInt8) (u : KW w [⟨g1, cells 8 x, 24⟩]), i = .int .i64 k ∧ t = .string ⟨s.toArray⟩ ∧ k < 155 ∧ s.length < 155 ∧ wr = u.w ∧ Hid (TextW a k x s)
set_option maxRecDepth 100000 in
set_option maxHeartbeats 3200000 in
theorem refText_any (a : Nat) (ha : Hid (a < M)) (w : World) : Calls Tryz.prog 49 #[wv a] w (Ret (.string ⟨(decDigits a).toArray⟩) w) := by
  have m10 : Hid (10 < M) := Lib.hid (by unfold M; rw [B_eq]; decide +kernel)
  have h10 := ten8
  unfold wv
  refine enter fun u => ?_
  go_enter Tryz.func49, Tryz.ntmps49
  go_wp2_with (first
    | ((with_reducible apply list_box); exact rfl; intro _ _))
  rename_i g1 u1 _ _
  go_loopw [4, 5] (RxRel a w g1) (fun _ i _ => 160 - (intOf i).toNat)
  case atStart => exact ⟨0, a, [], u1, rfl, rfl, by decide, by decide, rfl, Lib.hid ⟨by simp, rfl, ha.out⟩⟩
  case round =>
    clear u1
    obtain ⟨k, x, s, u, rfl, rfl, hk, hs, rfl, hT⟩ := hrel
    have hk1 : (k : Int) < 160 := by omega
    have FO := Lib.hid (fun w => refOver_any x 10 (Lib.hid hT.out.2.2) m10 (Lib.hid (by decide)) w)
    have hq : x / 10 < M := by have := hT.out.2.2; omega
    have heq := eql0 (x / 10) hq
    have hr10 : x % 10 < 10 := Nat.mod_lt _ (by decide)
    have hwd : wd (x % 10) 0 = x % 10 := by unfold wd; simp; exact Nat.mod_eq_of_lt (by rw [B_eq]; omega)
    have c0 := cells_at (show 0 < 8 by decide) hwd
    have happ := app10 (x % 10) hr10 s
    by_cases h9 : 10 ≤ x
    · rw [show eqB (x / 10) 0 = false from decide_eq_false (by omega)] at heq
      have hn := hT.out.next h9
      have hk2 := hn.few ha.out
      have HN := Lib.hid hn
      have HS : Hid ((UInt8.ofNat (48 + x % 10) :: s).length < 155) := Lib.hid (by rw [hn.2.1]; exact hk2)
      generalize x / 10 = q at *
      generalize x % 10 = r at *
      generalize UInt8.ofNat (48 + r) :: s = s' at *
      clear hn h9 hq hwd
      go_wp2_with (first
        | ((with_reducible apply list_alloc); exact zeroW; intro _ _)
        | ((with_reducible apply lst_load); exact rfl; infer_instance; exact rowW; exact cells_size _ _)
        | ((with_reducible apply lst_store); exact rfl; exact rfl; infer_instance; exact rowW; exact cells_size _ _; exact cells_size _ _; exact cells_one _ _; intro _)
        | (go_at_call 40; (with_reducible refine (FO.out _).mono ?_); rintro e w' ⟨rfl, hb'⟩; obtain ⟨_, rfl⟩ := KW.go _ hb'; clear hb'))
      rename_i ux
      obtain ⟨uy, huy⟩ := KW.weak (h := Sub.skip (h := Sub.skip (h := Sub.both (h := Sub.nil)))) ux
      rw [huy]
      refine ⟨⟨k + 1, q, s', uy, by go_num, rfl, hk2, HS.out, rfl, HN⟩, ?_⟩
      simp [intOf]; omega
    · rw [show eqB (x / 10) 0 = true from decide_eq_true (by omega)] at heq
      have HN := Lib.hid (hT.out.last (by omega))
      rw [show x % 10 = x from Nat.mod_eq_of_lt (by omega)] at *
      have HE : Hid ((⟨(UInt8.ofNat (48 + x) :: s).toArray⟩ : ByteArray) = ⟨(decDigits a).toArray⟩) := Lib.hid (by rw [HN.out])
      generalize x / 10 = q at *
      generalize UInt8.ofNat (48 + x) :: s = s' at *
      clear hq hwd h9
      go_wp2_with (first
        | ((with_reducible apply list_alloc); exact zeroW; intro _ _)
        | ((with_reducible apply lst_load); exact rfl; infer_instance; exact rowW; exact cells_size _ _)
        | ((with_reducible apply lst_store); exact rfl; exact rfl; infer_instance; exact rowW; exact cells_size _ _; exact cells_size _ _; exact cells_one _ _; intro _)
        | (go_at_call 40; (with_reducible refine (FO.out _).mono ?_); rintro e w' ⟨rfl, hb'⟩; obtain ⟨_, rfl⟩ := KW.go _ hb'; clear hb'))
      go_ret
      exact ⟨by rw [HE.out]; rfl, KW.below _⟩
end Go.Proofs.YtacicfmalhhceaaGreatDoor.QuotW

