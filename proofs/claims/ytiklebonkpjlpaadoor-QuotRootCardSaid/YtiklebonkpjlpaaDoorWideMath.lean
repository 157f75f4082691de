/-
  Numbers of words of 64 bits: plain mathematics, of no program.
-/
import Derived.Test.YtiklebonkpjlpaaDoorDigMath2
namespace WideM
open DigM
/-- 2^64 -/
@[irreducible] def B : Nat := 18446744073709551616
theorem B_eq : B = 18446744073709551616 := by unfold B; rfl
theorem B_two : B = 2 ^ 64 := by rw [B_eq]
theorem B_dig : B = 65536 ^ 4 := by rw [B_eq]
theorem B_pos : 0 < B := by rw [B_eq]; decide
theorem Bp_pos (k : Nat) : 0 < B ^ k := Nat.pow_pos B_pos
theorem Bp_two (k : Nat) : B ^ k = 2 ^ (64 * k) := by rw [B_two, ← Nat.pow_mul]
theorem Bp_dig (k : Nat) : B ^ k = 65536 ^ (4 * k) := by rw [B_dig, ← Nat.pow_mul]
/-- word i of n -/
def wd (n i : Nat) : Nat := n / B ^ i % B
theorem wd_lt (n i : Nat) : wd n i < B := Nat.mod_lt _ B_pos
theorem wd_lt' (n i : Nat) : wd n i < 18446744073709551616 := by rw [← B_eq]; exact wd_lt n i
theorem mod_step (n k : Nat) : n % B ^ (k + 1) = n % B ^ k + B ^ k * wd n k := Nat.mod_pow_succ
theorem split (n k : Nat) : n = n % B ^ k + B ^ k * (wd n k + B * (n / B ^ (k + 1))) := by
  have h1 := Nat.mod_add_div n (B ^ k)
  have h2 := Nat.mod_add_div (n / B ^ k) B
  rw [Nat.div_div_eq_div_mul, ← Nat.pow_succ] at h2
  unfold wd
  rw [h2, h1]
theorem wd_zero_of_lt {n k i : Nat} (h : n < B ^ k) (hi : k ≤ i) : wd n i = 0 := by
  unfold wd
  rw [Nat.div_eq_of_lt (Nat.lt_of_lt_of_le h (Nat.pow_le_pow_right B_pos hi))]
  exact Nat.zero_mod _
/-- n, but word k is x -/
def put (n k x : Nat) : Nat := n % B ^ k + B ^ k * (x + B * (n / B ^ (k + 1)))
theorem put_eq (n k x : Nat) : put n k x + B ^ k * wd n k = n + B ^ k * x := by
  have := split n k
  unfold put
  rw [Nat.mul_add] at this ⊢
  omega
theorem wd_put (n k x i : Nat) (hx : x < B) : wd (put n k x) i = if i = k then x else wd n i := by
  have hm := Nat.mod_lt n (Bp_pos k)
  unfold wd put
  by_cases h : i = k
  · subst h
    rw [if_pos rfl, Nat.add_mul_div_left _ _ (Bp_pos i), Nat.div_eq_of_lt hm, Nat.zero_add, Nat.add_mul_mod_self_left, Nat.mod_eq_of_lt hx]
  · rw [if_neg h]
    rcases Nat.lt_or_ge i k with hlt | hge
    · obtain ⟨j, rfl⟩ : ∃ j, k = i + (j + 1) := ⟨k - i - 1, by omega⟩
      have key : ∀ z, (n % B ^ (i + (j + 1)) + B ^ (i + (j + 1)) * z) / B ^ i % B = n % B ^ (i + (j + 1)) / B ^ i % B := by
        intro z
        rw [show B ^ (i + (j + 1)) * z = B ^ i * (B * (B ^ j * z)) by rw [Nat.pow_add, Nat.pow_succ]; simp only [Nat.mul_assoc, Nat.mul_comm, Nat.mul_left_comm], Nat.add_mul_div_left _ _ (Bp_pos i), Nat.add_mul_mod_self_left]
      rw [key]
      have h2 := Nat.mod_add_div n (B ^ (i + (j + 1)))
      have h3 := key (n / B ^ (i + (j + 1)))
      rw [h2] at h3
      exact h3.symm
    · obtain ⟨j, rfl⟩ : ∃ j, i = k + 1 + j := ⟨i - k - 1, by omega⟩
      have e : ∀ z, (n % B ^ k + B ^ k * (x + B * z)) / B ^ (k + 1 + j) = z / B ^ j := by
        intro z
        rw [Nat.pow_add, Nat.pow_succ, Nat.mul_assoc, ← Nat.div_div_eq_div_mul, Nat.add_mul_div_left _ _ (Bp_pos k), Nat.div_eq_of_lt hm, Nat.zero_add, ← Nat.div_div_eq_div_mul, Nat.add_mul_div_left _ _ B_pos, Nat.div_eq_of_lt hx, Nat.zero_add]
      rw [e, Nat.div_div_eq_div_mul, ← Nat.pow_add]
theorem put_lt {n k m x : Nat} (hn : n < B ^ m) (hk : k < m) (hx : x < B) : put n k x < B ^ m := by
  obtain ⟨j, rfl⟩ : ∃ j, m = k + 1 + j := ⟨m - k - 1, by omega⟩
  have hm := Nat.mod_lt n (Bp_pos k)
  have hq : n / B ^ (k + 1) < B ^ j := Nat.div_lt_of_lt_mul (by rw [← Nat.pow_add]; exact hn)
  unfold put
  have h1 : x + B * (n / B ^ (k + 1)) + 1 ≤ B ^ (j + 1) := by
    have := Nat.mul_le_mul_left B (show n / B ^ (k + 1) + 1 ≤ B ^ j from hq)
    have e : B ^ (j + 1) = B * B ^ j := by rw [Nat.pow_succ, Nat.mul_comm]
    rw [e]
    rw [Nat.mul_add] at this; omega
  have h2 := Nat.mul_le_mul_left (B ^ k) h1
  rw [← Nat.pow_add, Nat.mul_add, Nat.mul_one] at h2
  rw [show k + 1 + j = k + (j + 1) by omega]
  omega
theorem put_small {n k x : Nat} (hn : n < B ^ k) : put n k x = n + B ^ k * x := by
  have := put_eq n k x
  rw [wd_zero_of_lt hn (Nat.le_refl _), Nat.mul_zero, Nat.add_zero] at this
  exact this
theorem ext_words {m a b : Nat} (ha : a < B ^ m) (hb : b < B ^ m) (h : ∀ i, i < m → wd a i = wd b i) : a = b := by
  have key : ∀ k, k ≤ m → a % B ^ k = b % B ^ k := by
    intro k
    induction k with
    | zero => intro _; simp [Nat.mod_one]
    | succ k ih => intro hk; rw [mod_step, mod_step, ih (by omega), h k (by omega)]
  have := key m (Nat.le_refl _)
  rwa [Nat.mod_eq_of_lt ha, Nat.mod_eq_of_lt hb] at this
/-- any m words are those of a number -/
theorem of_words : ∀ (ws : List Nat), (∀ x ∈ ws, x < B) → ∃ n, n < B ^ ws.length ∧ ∀ i (h : i < ws.length), ws[i] = wd n i
  | [], _ => ⟨0, by simp, fun i h => by simp at h⟩
  | x :: ws, h => by
    obtain ⟨n, h1, h2⟩ := of_words ws (fun y hy => h y (List.mem_cons_of_mem _ hy))
    have hx := h x (List.mem_cons_self ..)
    refine ⟨x + B * n, ?_, fun i hi => ?_⟩
    · have := Nat.mul_le_mul_left B (show n + 1 ≤ B ^ ws.length from h1)
      rw [List.length_cons, Nat.pow_succ, Nat.mul_comm (B ^ _)]
      rw [Nat.mul_add] at this; omega
    · cases i with
      | zero => simp [wd, Nat.mod_eq_of_lt hx]
      | succ i =>
        rw [List.getElem_cons_succ, h2 i (by simpa using hi)]
        unfold wd
        rw [Nat.pow_succ, Nat.mul_comm (B ^ i), ← Nat.div_div_eq_div_mul, Nat.add_mul_div_left _ _ B_pos, Nat.div_eq_of_lt hx, Nat.zero_add]
/-- 2^512 -/
def M : Nat := B ^ 8
theorem M_two (e : Nat) (he : e = 512) : M = 2 ^ e := by
  obtain rfl : 64 * 8 = e := by omega
  exact Bp_two 8
theorem M_pos : 0 < M := Bp_pos 8
/-- modulo 2^512 -/
def low (n : Nat) : Nat := n % M
def fitB (n : Nat) : Bool := decide (n < M)
def leB (a b : Nat) : Bool := decide (a ≤ b)
def eqB (a b : Nat) : Bool := decide (a = b)
theorem low_lt (n : Nat) : low n < M := Nat.mod_lt _ M_pos
theorem low_of {n : Nat} (h : n < M) : low n = n := Nat.mod_eq_of_lt h
theorem eqB_same (a : Nat) : eqB a a = true := by simp [eqB]
/-- the difference modulo 2^512 -/
def subL (a b : Nat) : Nat := low (a + M - b)
def cmpI (a b : Nat) : Int := if a < b then -1 else if a = b then 0 else 1
/-! ### a sum and a difference, word by word -/
def SumW (a b k s c : Nat) : Prop := c ≤ 1 ∧ s < B ^ k ∧ s + B ^ k * c = a % B ^ k + b % B ^ k
theorem SumW.start (a b : Nat) : SumW a b 0 0 0 := ⟨by decide, by simp, by simp [Nat.mod_one]⟩
theorem SumW.next {a b k s c x o : Nat} (h : SumW a b k s c) (ho : o ≤ 1) (hx : x < B) (he : x + B * o = wd a k + wd b k + c) : SumW a b (k + 1) (put s k x) o := by
  obtain ⟨h1, h2, h3⟩ := h
  refine ⟨ho, put_lt (Nat.lt_of_lt_of_le h2 (Nat.pow_le_pow_right B_pos (by omega))) (by omega) hx, ?_⟩
  rw [put_small h2, mod_step, mod_step, Nat.pow_succ, Nat.mul_assoc]
  have := congrArg (B ^ k * ·) he
  simp only [Nat.mul_add] at this
  omega
theorem SumW.over {a b s c : Nat} (h : SumW a b 8 s c) (ha : a < M) (hb : b < M) : s = low (a + b) ∧ ((c : Int) == 0) = fitB (a + b) := by
  obtain ⟨h1, h2, h3⟩ := h
  change s < M at h2
  change s + M * c = a % M + b % M at h3
  rw [Nat.mod_eq_of_lt ha, Nat.mod_eq_of_lt hb] at h3
  refine ⟨?_, ?_⟩
  · rw [low, ← h3, Nat.add_mul_mod_self_left, Nat.mod_eq_of_lt h2]
  · unfold fitB
    rw [Bool.eq_iff_iff, beq_iff_eq, decide_eq_true_eq]
    rcases Nat.le_one_iff_eq_zero_or_eq_one.1 h1 with h | h <;> subst h <;> omega
def DifW (a b k s c : Nat) : Prop := c ≤ 1 ∧ s < B ^ k ∧ s + b % B ^ k = a % B ^ k + B ^ k * c
theorem DifW.start (a b : Nat) : DifW a b 0 0 0 := ⟨by decide, by simp, by simp [Nat.mod_one]⟩
theorem DifW.next {a b k s c x o : Nat} (h : DifW a b k s c) (ho : o ≤ 1) (hx : x < B) (he : x + wd b k + c = wd a k + B * o) : DifW a b (k + 1) (put s k x) o := by
  obtain ⟨h1, h2, h3⟩ := h
  refine ⟨ho, put_lt (Nat.lt_of_lt_of_le h2 (Nat.pow_le_pow_right B_pos (by omega))) (by omega) hx, ?_⟩
  rw [put_small h2, mod_step, mod_step, Nat.pow_succ, Nat.mul_assoc]
  have := congrArg (B ^ k * ·) he
  simp only [Nat.mul_add] at this
  omega
theorem DifW.over {a b s c : Nat} (h : DifW a b 8 s c) (ha : a < M) (hb : b < M) : s = subL a b ∧ ((c : Int) == 0) = leB b a := by
  obtain ⟨h1, h2, h3⟩ := h
  change s < M at h2
  change s + b % M = a % M + M * c at h3
  rw [Nat.mod_eq_of_lt ha, Nat.mod_eq_of_lt hb] at h3
  unfold subL low leB
  rcases Nat.le_one_iff_eq_zero_or_eq_one.1 h1 with h | h <;> subst h
  · refine ⟨?_, by rw [Bool.eq_iff_iff, beq_iff_eq, decide_eq_true_eq]; omega⟩
    rw [show a + M - b = s + M by omega, Nat.add_mod_right, Nat.mod_eq_of_lt h2]
  · refine ⟨?_, by rw [Bool.eq_iff_iff, beq_iff_eq, decide_eq_true_eq]; omega⟩
    rw [show a + M - b = s by omega, Nat.mod_eq_of_lt h2]
/-! ### a product, row by row -/
def ProdW (a b i t : Nat) : Prop := t = (a % B ^ i) * b
def RowW (a b i j t c : Nat) : Prop := c < B ∧ t < B ^ (i + 8) ∧ t + B ^ (i + j) * c = (a % B ^ i) * b + B ^ i * (wd a i * (b % B ^ j))
theorem ProdW.start (a b : Nat) : ProdW a b 0 0 := by simp [ProdW, Nat.mod_one]
theorem ProdW.lt {a b i t : Nat} (h : ProdW a b i t) (hb : b < M) : t < B ^ (i + 8) := by
  rw [h, Nat.pow_add]
  have h1 := Nat.mod_lt a (Bp_pos i)
  exact Nat.mul_lt_mul_of_lt_of_le h1 (Nat.le_of_lt hb) (Bp_pos 8)
theorem ProdW.skip {a b i t : Nat} (h : ProdW a b i t) (h0 : wd a i = 0) : ProdW a b (i + 1) t := by
  unfold ProdW at h ⊢
  rw [mod_step, h0, Nat.mul_zero, Nat.add_zero]
  exact h
theorem ProdW.row {a b i t : Nat} (h : ProdW a b i t) (hb : b < M) : RowW a b i 0 t 0 := ⟨B_pos, h.lt hb, by simp [Nat.mod_one]; exact h⟩
theorem RowW.next {a b i j t c x o : Nat} (h : RowW a b i j t c) (hj : j < 8) (hx : x < B) (ho : o < B) (he : x + B * o = wd a i * wd b j + wd t (i + j) + c) : RowW a b i (j + 1) (put t (i + j) x) o := by
  obtain ⟨h1, h2, h3⟩ := h
  refine ⟨ho, put_lt h2 (by omega) hx, ?_⟩
  have hp := put_eq t (i + j) x
  have e1 : B ^ (i + (j + 1)) = B ^ (i + j) * B := by rw [← Nat.add_assoc, Nat.pow_succ]
  have e2 : B ^ i * (wd a i * (b % B ^ (j + 1))) = B ^ i * (wd a i * (b % B ^ j)) + B ^ (i + j) * (wd a i * wd b j) := by
    rw [mod_step, Nat.mul_add, Nat.mul_add, Nat.pow_add]
    simp only [Nat.mul_assoc, Nat.mul_left_comm]
  rw [e1, e2, Nat.mul_assoc]
  have := congrArg (B ^ (i + j) * ·) he
  simp only [Nat.mul_add] at this
  omega
theorem RowW.over {a b i t c : Nat} (h : RowW a b i 8 t c) (hb : b < M) : ProdW a b (i + 1) (put t (i + 8) c) := by
  obtain ⟨h1, h2, h3⟩ := h
  unfold ProdW
  rw [Nat.mod_eq_of_lt (show b < B ^ 8 from hb)] at h3
  rw [put_small h2, h3, mod_step a i, Nat.add_mul, Nat.mul_assoc]
theorem ProdW.over {a b t : Nat} (h : ProdW a b 8 t) (ha : a < M) : t = a * b := by
  unfold ProdW at h
  rw [h, Nat.mod_eq_of_lt (show a < B ^ 8 from ha)]
theorem wd_high (t i : Nat) : wd t (i + 8) = wd (t / M) i := by
  unfold wd M
  rw [Nat.div_div_eq_div_mul, ← Nat.pow_add, Nat.add_comm]
theorem part_step {t k : Nat} : put (t % B ^ k) k (wd t k) = t % B ^ (k + 1) := by
  rw [put_small (Nat.mod_lt _ (Bp_pos k)), mod_step]
theorem high_zero {t : Nat} : eqB (t / M) 0 = fitB t := by
  unfold eqB fitB
  exact decide_eq_decide.2 (Nat.div_eq_zero_iff_lt M_pos)
/-! ### how numbers compare; how long they are -/
theorem top_step {a b j : Nat} (h : a / B ^ (j + 1) = b / B ^ (j + 1)) (he : wd a j = wd b j) : a / B ^ j = b / B ^ j := by
  have key : ∀ n, n / B ^ j = wd n j + B * (n / B ^ (j + 1)) := fun n => by
    unfold wd
    have := Nat.mod_add_div (n / B ^ j) B
    rw [Nat.div_div_eq_div_mul, ← Nat.pow_succ] at this
    exact this.symm
  rw [key a, key b, h, he]
theorem top_lt {a b j : Nat} (h : a / B ^ (j + 1) = b / B ^ (j + 1)) (he : wd a j < wd b j) : a < b := by
  have h1 := split a j
  have h2 := split b j
  rw [h] at h1
  have hm := Nat.mod_lt a (Bp_pos j)
  have := Nat.mul_le_mul_left (B ^ j) (show wd a j + B * (b / B ^ (j + 1)) + 1 ≤ wd b j + B * (b / B ^ (j + 1)) by omega)
  rw [Nat.mul_add, Nat.mul_one] at this
  generalize b % B ^ j = r at *
  omega
theorem cmpI_lt {a b : Nat} (h : a < b) : cmpI a b = -1 := if_pos h
theorem cmpI_gt {a b : Nat} (h : b < a) : cmpI a b = 1 := by unfold cmpI; rw [if_neg (by omega), if_neg (by omega)]
theorem cmpI_eq (a : Nat) : cmpI a a = 0 := by simp [cmpI]
/-- how many bits n has -/
def bl (n : Nat) : Nat := if n = 0 then 0 else n.log2 + 1
theorem bl_BL (n : Nat) : BL n (bl n) := by
  unfold bl
  split
  · rename_i h; rw [h]; exact BL.zero
  · rename_i h
    exact ⟨Nat.lt_log2_self, fun _ => Nat.log2_self_le h⟩
theorem bl_of {n k : Nat} (h : BL n k) : bl n = k := (bl_BL n).uniq h
theorem bl_top {a j k : Nat} (h : a / B ^ (j + 1) = 0) (hk : BL (wd a j) k) (hk0 : wd a j ≠ 0) : bl a = 64 * j + k := by
  have hs := split a j
  rw [h, Nat.mul_zero, Nat.add_zero] at hs
  have hm := Nat.mod_lt a (Bp_pos j)
  obtain ⟨h1, h2⟩ := hk
  have hkp : 0 < k := Nat.pos_of_ne_zero fun e => by rw [e] at h1; simp at h1; exact hk0 h1
  have h3 := h2 hkp
  rw [Bp_two] at hs hm
  refine bl_of ⟨?_, fun _ => ?_⟩
  · have := Nat.mul_le_mul_left (2 ^ (64 * j)) (show wd a j + 1 ≤ 2 ^ k from h1)
    rw [Nat.mul_add, ← Nat.pow_add, Nat.mul_one] at this
    omega
  · have := Nat.mul_le_mul_left (2 ^ (64 * j)) h3
    rw [← Nat.pow_add] at this
    rw [show 64 * j + k - 1 = 64 * j + (k - 1) by omega]
    omega
theorem bl_zero {a : Nat} (h : a / B ^ 0 = 0) : bl a = 0 := by
  simp at h; rw [h]; rfl
/-! ### bits -/
/-- the number whose bits below n are f's -/
def ofBits (f : Nat → Bool) : Nat → Nat
  | 0 => 0
  | n + 1 => ofBits f n + if f n then 2 ^ n else 0
theorem ofBits_lt (f : Nat → Bool) : ∀ n, ofBits f n < 2 ^ n
  | 0 => by simp [ofBits]
  | n + 1 => by
    have := ofBits_lt f n
    rw [ofBits, Nat.pow_succ]; split <;> omega
theorem testBit_ofBits (f : Nat → Bool) : ∀ n i, (ofBits f n).testBit i = (decide (i < n) && f i)
  | 0, i => by simp [ofBits]
  | n + 1, i => by
    have hl := ofBits_lt f n
    have ih := testBit_ofBits f n i
    rw [ofBits]
    by_cases hf : f n = true
    · rw [if_pos hf, Nat.add_comm]
      by_cases hi : i = n
      · subst hi
        rw [Nat.testBit_two_pow_add_eq, Nat.testBit_lt_two_pow hl]; simp [hf]
      · rcases Nat.lt_or_ge i n with h | h
        · rw [Nat.testBit_two_pow_add_gt h, ih]; simp [h, show i < n + 1 by omega]
        · have h1 : 2 ^ n + ofBits f n < 2 ^ (n + 1) := by rw [Nat.pow_succ]; omega
          rw [Nat.testBit_lt_two_pow (Nat.lt_of_lt_of_le h1 (Nat.pow_le_pow_right (by decide) (by omega)))]
          simp; omega
    · rw [if_neg hf, Nat.add_zero, ih]
      by_cases hi : i = n
      · subst hi; simp [hf]
      · have : decide (i < n + 1) = decide (i < n) := decide_eq_decide.2 (by omega)
        rw [this]
theorem ext_bits {a b : Nat} (h : ∀ i, a.testBit i = b.testBit i) : a = b := Nat.eq_of_testBit_eq h
theorem M_le {i : Nat} (hi : 512 ≤ i) : M ≤ 2 ^ i := by
  obtain ⟨e, he⟩ : ∃ e : Nat, e = 512 := ⟨_, rfl⟩
  rw [M_two e he]; exact Nat.pow_le_pow_right (by decide) (by omega)
theorem bit_big {a i : Nat} (ha : a < M) (hi : 512 ≤ i) : a.testBit i = false :=
  Nat.testBit_lt_two_pow (Nat.lt_of_lt_of_le ha (M_le hi))
/-- bit z of a; false if there is none -/
def bitZ (a : Nat) (z : Int) : Bool := decide (0 ≤ z) && a.testBit z.toNat
/-- a shifted by z -/
def shN (a : Nat) (z : Int) : Nat := ofBits (fun i => bitZ a ((i : Int) - z)) 512
theorem ofBits_lt_M {f : Nat → Bool} {e : Nat} (he : e = 512) : ofBits f e < M := by rw [M_two e he]; exact ofBits_lt _ _
theorem shN_lt (a : Nat) (z : Int) : shN a z < M := ofBits_lt_M rfl
theorem shN_bit (a : Nat) (z : Int) (i : Nat) : (shN a z).testBit i = (decide (i < 512) && bitZ a ((i : Int) - z)) := testBit_ofBits _ _ _
theorem wd_bit (n i j : Nat) (hj : j < 64) : (wd n i).testBit j = n.testBit (64 * i + j) := by
  unfold wd
  rw [B_two, ← Nat.pow_mul, Nat.testBit_mod_two_pow, Nat.testBit_div_two_pow]
  simp [hj, Nat.add_comm]
/-- word d of a; 0 if there is none -/
def wz (a : Nat) (d : Int) : Nat := if 0 ≤ d ∧ d < 8 then wd a d.toNat else 0
theorem wz_lt (a : Nat) (d : Int) : wz a d < B := by unfold wz; split; exact wd_lt _ _; exact B_pos
theorem wz_bit {a : Nat} (ha : a < M) (d : Int) (s : Nat) (hs : s < 64) : bitZ a (64 * d + s) = (wz a d).testBit s := by
  unfold bitZ wz
  split
  · rename_i h
    obtain ⟨k, rfl⟩ : ∃ k : Nat, d = k := ⟨d.toNat, by omega⟩
    have e1 : (64 * (k : Int) + s).toNat = 64 * k + s := by omega
    have e2 : (0 : Int) ≤ 64 * (k : Int) + s := by omega
    rw [e1, decide_eq_true e2, Bool.true_and, Int.toNat_natCast, wd_bit _ _ _ hs]
  · rename_i h
    rw [Nat.zero_testBit]
    by_cases h0 : (0 : Int) ≤ 64 * d + s
    · rw [bit_big ha (by omega)]; simp
    · simp [h0]
theorem wz_is {a : Nat} (ha : a < M) (z : Int) {r x : Nat} (hr : z % 64 = r) (hx : wz a (z / 64) = x) : bitZ a z = decide (x / 2 ^ r % 2 = 1) := by
  have := wz_bit ha (z / 64) r (by omega)
  rw [show 64 * (z / 64) + (r : Int) = z by omega, hx] at this
  rw [this, Nat.testBit_eq_decide_div_mod_eq]
/-- a word of a shifted number -/
theorem sh_word {a : Nat} (ha : a < M) (z : Int) {i l x1 x2 : Nat} (hi : i < 8) (hl : z % 64 = l) (h1 : wz a ((i : Int) - z / 64) = x1) (h2 : wz a ((i : Int) - z / 64 - 1) = x2) :
    wd (shN a z) i = (x1 * 2 ^ l) % 2 ^ 64 ||| x2 / 2 ^ (64 - l) := by
  have hl64 : l < 64 := by omega
  apply Nat.eq_of_testBit_eq
  intro j
  rw [Nat.testBit_or, Nat.testBit_mod_two_pow, Nat.testBit_div_two_pow, ← Nat.shiftLeft_eq, Nat.testBit_shiftLeft]
  by_cases hj : j < 64
  · rw [wd_bit _ _ _ hj, shN_bit]
    have e512 : 64 * i + j < 512 := by omega
    rw [decide_eq_true e512, decide_eq_true hj, Bool.true_and, Bool.true_and]
    by_cases hlj : l ≤ j
    · have e := wz_bit ha ((i : Int) - z / 64) (j - l) (by omega)
      rw [show 64 * ((i : Int) - z / 64) + ((j - l : Nat) : Int) = ((64 * i + j : Nat) : Int) - z by omega, h1] at e
      rw [e]
      have hb : x2 < 2 ^ 64 := by rw [← h2, ← B_two]; exact wz_lt _ _
      rw [Nat.testBit_lt_two_pow (Nat.lt_of_lt_of_le hb (Nat.pow_le_pow_right (by decide) (show 64 ≤ j + (64 - l) by omega)))]
      simp [hlj]
    · have e := wz_bit ha ((i : Int) - z / 64 - 1) (j + (64 - l)) (by omega)
      rw [show 64 * ((i : Int) - z / 64 - 1) + ((j + (64 - l) : Nat) : Int) = ((64 * i + j : Nat) : Int) - z by omega, h2] at e
      rw [e]
      simp [hlj]
  · have hw : wd (shN a z) i < 2 ^ j := Nat.lt_of_lt_of_le (by rw [← B_two]; exact wd_lt _ _) (Nat.pow_le_pow_right (by decide) (show 64 ≤ j by omega))
    have hb : x2 < 2 ^ 64 := by rw [← h2, ← B_two]; exact wz_lt _ _
    rw [Nat.testBit_lt_two_pow hw, Nat.testBit_lt_two_pow (Nat.lt_of_lt_of_le hb (Nat.pow_le_pow_right (by decide) (show 64 ≤ j + (64 - l) by omega)))]
    simp [hj]
theorem bit_wd (n i : Nat) : n.testBit i = (wd n (i / 64)).testBit (i % 64) := by
  rw [wd_bit _ _ _ (Nat.mod_lt _ (by decide)), Nat.div_add_mod]
end WideM
