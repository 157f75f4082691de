/-
  Shifts as products and quotients; what a division by many words begins with: plain mathematics, of no program.
-/
import Derived.Test.YtiklebonkpjlpaaDoorQuotMath
namespace QuotM
open DigM WideM
theorem sh_left (a n : Nat) : shN a n = low (a * 2 ^ n) := by
  obtain ⟨e, he⟩ : ∃ e : Nat, e = 512 := ⟨_, rfl⟩
  apply ext_bits; intro i
  rw [shN_bit, low, M_two e he, Nat.testBit_mod_two_pow, ← Nat.shiftLeft_eq, Nat.testBit_shiftLeft, he]
  congr 1
  unfold bitZ
  by_cases h : n ≤ i
  · rw [decide_eq_true (show (0 : Int) ≤ (i : Int) - n by omega), decide_eq_true (show i ≥ n from h), show ((i : Int) - n).toNat = i - n by omega]
  · rw [decide_eq_false (show ¬ (0 : Int) ≤ (i : Int) - n by omega), decide_eq_false (show ¬ i ≥ n from h)]
    rfl
theorem sh_right {a : Nat} (ha : a < M) (n : Nat) : shN a (-(n : Int)) = a / 2 ^ n := by
  apply ext_bits; intro i
  rw [shN_bit, Nat.testBit_div_two_pow]
  unfold bitZ
  rw [decide_eq_true (show (0 : Int) ≤ (i : Int) - -(n : Int) by omega), Bool.true_and, show ((i : Int) - -(n : Int)).toNat = i + n by omega]
  by_cases h : i < 512
  · rw [decide_eq_true h, Bool.true_and]
  · rw [decide_eq_false h, Bool.false_and, bit_big ha (by omega)]
theorem wd_mod (s n i : Nat) : wd (s % B ^ n) i = if i < n then wd s i else 0 := by
  by_cases h : i < n
  · rw [if_pos h]
    obtain ⟨j, rfl⟩ : ∃ j, n = i + 1 + j := ⟨n - i - 1, by omega⟩
    have h2 := mod_step s i
    have h3 := mod_step (s % B ^ (i + 1 + j)) i
    have e1 : s % B ^ (i + 1 + j) % B ^ (i + 1) = s % B ^ (i + 1) := Nat.mod_mod_of_dvd _ ⟨B ^ j, Nat.pow_add ..⟩
    have e2 : s % B ^ (i + 1 + j) % B ^ i = s % B ^ i := Nat.mod_mod_of_dvd _ ⟨B ^ (1 + j), by rw [← Nat.pow_add]; congr 1; omega⟩
    rw [e1, e2, h2] at h3
    exact (Nat.eq_of_mul_eq_mul_left (Bp_pos i) (by omega)).symm
  · rw [if_neg h]
    exact wd_zero_of_lt (Nat.mod_lt _ (Bp_pos n)) (by omega)
/-! ### a shifted number, and the word that goes beyond -/
theorem shifted_is {a k : Nat} (ha : a < M) (hk : k < 64) : put (low (a * 2 ^ k)) 8 (wd (shN a ((k : Int) - 512)) 0) = a * 2 ^ k := by
  obtain ⟨e, he⟩ : ∃ e : Nat, e = 512 := ⟨_, rfl⟩
  have e1 : (k : Int) - 512 = -((512 - k : Nat) : Int) := by omega
  have hM : M = 2 ^ (512 - k) * 2 ^ k := by rw [M_two e he, ← Nat.pow_add]; congr 1; omega
  have h2 : a / 2 ^ (512 - k) < 2 ^ k := Nat.div_lt_of_lt_mul (by rw [← hM]; exact ha)
  have h3 : 2 ^ k < B := by rw [B_two]; exact Nat.pow_lt_pow_right (by decide) hk
  rw [e1, sh_right ha, put_small (low_lt _)]
  have h4 : wd (a / 2 ^ (512 - k)) 0 = a / 2 ^ (512 - k) := by unfold wd; simp; exact Nat.mod_eq_of_lt (by omega)
  rw [h4]
  have h5 : a * 2 ^ k / M = a / 2 ^ (512 - k) := by rw [hM, Nat.mul_div_mul_right _ _ (Nat.two_pow_pos k)]
  rw [← h5]
  exact Nat.mod_add_div _ _
/-! ### the number that divides, shifted till its highest bit is its highest word's -/
def Top (b n k : Nat) : Prop := k < 64 ∧ b * 2 ^ k < B ^ n ∧ B ^ n ≤ 2 * (b * 2 ^ k)
theorem top_of {b n : Nat} (hb : 0 < b) (h1 : bl b ≤ 64 * n) (h2 : 64 * n < bl b + 64) : Top b n (64 * n - bl b) := by
  obtain ⟨g1, g2⟩ := bl_BL b
  have hbl : 0 < bl b := by
    apply Nat.pos_of_ne_zero; intro h0
    rw [h0] at g1; simp at g1; omega
  have g3 := g2 hbl
  refine ⟨by omega, ?_, ?_⟩ <;> rw [Bp_two]
  · have := Nat.mul_lt_mul_of_lt_of_le g1 (Nat.le_refl (2 ^ (64 * n - bl b))) (Nat.two_pow_pos _)
    rw [← Nat.pow_add] at this
    rwa [show bl b + (64 * n - bl b) = 64 * n by omega] at this
  · have := Nat.mul_le_mul_right (2 ^ (64 * n - bl b)) g3
    rw [← Nat.pow_add] at this
    have e : 2 ^ (64 * n) = 2 * 2 ^ (bl b - 1 + (64 * n - bl b)) := by rw [← Nat.pow_succ']; congr 1; omega
    omega
theorem Top.word {b n k : Nat} (h : Top b (n + 1) k) : B ≤ 2 * wd (b * 2 ^ k) n := by
  obtain ⟨_, h1, h2⟩ := h
  generalize b * 2 ^ k = V at *
  have e : V = V % B ^ n + B ^ n * wd V n := by rw [← mod_step, Nat.mod_eq_of_lt h1]
  have hm := Nat.mod_lt V (Bp_pos n)
  apply Nat.le_of_not_lt; intro hc
  have hB : B = 2 * 9223372036854775808 := by rw [B_eq]
  have h3 := Nat.mul_le_mul_left (B ^ n) (show 2 * (wd V n + 1) ≤ B by omega)
  rw [show B ^ n * B = B ^ (n + 1) from (Nat.pow_succ ..).symm] at h3
  have e2 : B ^ n * (2 * (wd V n + 1)) = 2 * (B ^ n * wd V n) + 2 * B ^ n := by
    rw [Nat.mul_left_comm, Nat.mul_add, Nat.mul_add, Nat.mul_one]
  omega
theorem Top.start {a b n k : Nat} (h : Top b n k) (ha : a < M) (hn : n ≤ 9) : ManyW (a * 2 ^ k) (b * 2 ^ k) n (9 - n) 0 (a * 2 ^ k) := by
  obtain ⟨h0, h1, h2⟩ := h
  have hk : 2 * 2 ^ k ≤ B := by rw [B_two, ← Nat.pow_succ']; exact Nat.pow_le_pow_right (by decide) (by omega)
  have hA : a * 2 ^ k < M * 2 ^ k := Nat.mul_lt_mul_of_lt_of_le ha (Nat.le_refl _) (Nat.two_pow_pos k)
  have h9 : M * (2 * 2 ^ k) ≤ B ^ 9 := by
    have := Nat.mul_le_mul_left M hk
    exact this
  have h3 := Nat.mul_le_mul_right (B ^ (9 - n)) h2
  rw [← Nat.pow_add, show n + (9 - n) = 9 by omega, Nat.mul_assoc] at h3
  rw [Nat.mul_left_comm] at h9
  refine ManyW.start ?_ ?_ (by omega)
  · omega
  · have := Nat.two_pow_pos k
    omega
theorem Top.over {a b n k s t : Nat} (hM : ManyW (a * 2 ^ k) (b * 2 ^ k) n 0 s t) : s = a / b ∧ t % B ^ n = a % b * 2 ^ k := by
  obtain ⟨h1, h2⟩ := hM.over
  rw [h1, h2, Nat.mul_div_mul_right _ _ (Nat.two_pow_pos k), Nat.mul_mod_mul_right]
  exact ⟨rfl, rfl⟩
theorem back_right {r k : Nat} (h : r * 2 ^ k < M) : shN (r * 2 ^ k) (-(k : Int)) = r := by
  rw [sh_right h, Nat.mul_div_cancel _ (Nat.two_pow_pos k)]
end QuotM
