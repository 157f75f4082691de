/-
  Products, quotients and bits of numbers as lists of digits of 16 bits: plain mathematics, of no program.
-/
import Derived.Test.YtiklebonkpjlpaaDoorDigMath
namespace DigM
/-! ### a product, row by row -/
def Prod (a b : List Nat) (i : Nat) (o : List Nat) : Prop := o.length = a.length + b.length ∧ Digs o ∧ val o = val (a.take i) * val b
def Row (a b : List Nat) (i k : Nat) (o : List Nat) (c : Nat) : Prop :=
  o.length = a.length + b.length ∧ Digs o ∧ c < 65536 ∧ val o + 65536 ^ (i + k) * c = val (a.take i) * val b + 65536 ^ i * (dg a i * val (b.take k))
theorem Prod.start (a b : List Nat) : Prod a b 0 (List.replicate (a.length + b.length) 0) := ⟨by simp, Digs.rep _, by rw [val_rep]; simp [val]⟩
theorem Prod.skip {a b o : List Nat} {i : Nat} (h : Prod a b i o) (h0 : dg a i = 0) : Prod a b (i + 1) o := by
  obtain ⟨h1, h2, h3⟩ := h
  exact ⟨h1, h2, by rw [h3, val_take, h0]; simp⟩
theorem Prod.row {a b o : List Nat} {i : Nat} (h : Prod a b i o) : Row a b i 0 o 0 := by
  obtain ⟨h1, h2, h3⟩ := h
  exact ⟨h1, h2, by decide, by rw [h3]; simp [val]⟩
theorem Row.bound {a b o : List Nat} {i k c : Nat} (h : Row a b i k o c) (ha : Digs a) (hb : Digs b) :
    dg o (i + k) ≤ 65535 ∧ dg a i ≤ 65535 ∧ dg b k ≤ 65535 ∧ dg a i * dg b k ≤ 4294836225 ∧ c ≤ 65535 := by
  obtain ⟨h1, h2, h3, h4⟩ := h
  have d0 := h2.dg (i + k)
  have d1 := ha.dg i
  have d2 := hb.dg k
  have := Nat.mul_le_mul (show dg a i ≤ 65535 by omega) (show dg b k ≤ 65535 by omega)
  exact ⟨by omega, by omega, by omega, by omega, by omega⟩
theorem Row.next {a b o : List Nat} {i k c : Nat} (h : Row a b i k o c) (ha : Digs a) (hb : Digs b) (hi : i < a.length) (hk : k < b.length) :
    Row a b i (k + 1) (o.set (i + k) ((dg o (i + k) + dg a i * dg b k + c) % 65536)) ((dg o (i + k) + dg a i * dg b k + c) / 65536) := by
  have hbd := h.bound ha hb
  obtain ⟨h1, h2, h3, h4⟩ := h
  refine ⟨by simp [h1], h2.set _ _ (by omega), by omega, ?_⟩
  have hs := val_set o (i + k) ((dg o (i + k) + dg a i * dg b k + c) % 65536) (by omega)
  have ht := val_take b k
  have hp : 65536 ^ (i + (k + 1)) = 65536 ^ (i + k) * 65536 := by rw [← Nat.add_assoc, Nat.pow_succ]
  rw [hp, ht, Nat.mul_add (dg a i), Nat.mul_add (65536 ^ i), ← Nat.add_assoc, ← h4]
  have e1 : 65536 ^ i * (dg a i * (65536 ^ k * dg b k)) = 65536 ^ (i + k) * (dg a i * dg b k) := by
    rw [Nat.pow_add]
    simp only [Nat.mul_assoc, Nat.mul_left_comm]
  rw [e1]
  generalize dg a i * dg b k = m at *
  have e2 : 65536 ^ (i + k) * ((dg o (i + k) + m + c) % 65536) + 65536 ^ (i + k) * 65536 * ((dg o (i + k) + m + c) / 65536) = 65536 ^ (i + k) * dg o (i + k) + 65536 ^ (i + k) * m + 65536 ^ (i + k) * c := by
    rw [Nat.mul_assoc, ← Nat.mul_add, Nat.mod_add_div, Nat.mul_add, Nat.mul_add]
  omega
theorem Row.over {a b o : List Nat} {i k c : Nat} (h : Row a b i k o c) (ha : Digs a) (hb : Digs b) (hi : i < a.length) (hk : k = b.length) :
    Prod a b (i + 1) (o.set (i + b.length) (dg o (i + b.length) + c)) ∧ dg o (i + b.length) + c < 65536 := by
  obtain ⟨h1, h2, h3, h4⟩ := h
  subst hk
  have hs := val_set o (i + b.length) (dg o (i + b.length) + c) (by omega)
  rw [val_full b b.length (Nat.le_refl _)] at h4
  have hv : val (a.take i) * val b + 65536 ^ i * (dg a i * val b) = val (a.take (i + 1)) * val b := by
    rw [val_take, Nat.add_mul, Nat.mul_assoc]
  rw [hv] at h4
  have hvs : val (o.set (i + b.length) (dg o (i + b.length) + c)) = val (a.take (i + 1)) * val b := by rw [Nat.mul_add] at hs; omega
  have hd := dg_le o (i + b.length)
  have l1 := take_lt a (i + 1) ha
  have l2 := val_lt b hb
  have hlt : dg o (i + b.length) + c < 65536 := by
    apply Nat.lt_of_not_le; intro hc
    have m1 := Nat.mul_le_mul_left (65536 ^ (i + b.length)) hc
    rw [Nat.mul_add] at m1
    have m2 : val (a.take (i + 1)) * val b < 65536 ^ (i + 1) * 65536 ^ b.length := Nat.mul_lt_mul_of_lt_of_le l1 (Nat.le_of_lt l2) (Nat.pow_pos (by decide))
    have m3 : 65536 ^ (i + 1) * 65536 ^ b.length = 65536 ^ (i + b.length) * 65536 := by rw [← Nat.pow_add, ← Nat.pow_succ]; congr 1; omega
    omega
  exact ⟨⟨by simp [h1], h2.set _ _ hlt, hvs⟩, hlt⟩
theorem Prod.over {a b o : List Nat} {i : Nat} (h : Prod a b i o) (hi : i = a.length) : Digs o ∧ val o = val a * val b ∧ o.length = a.length + b.length := by
  obtain ⟨h1, h2, h3⟩ := h
  subst hi
  rw [val_full a _ (Nat.le_refl _)] at h3
  exact ⟨h2, h3, h1⟩
/-! ### a quotient, bit by bit -/
/-- the digits above place t are divided -/
def Out (a : List Nat) (vb t : Nat) (q r : List Nat) : Prop :=
  q.length = a.length ∧ Digs q ∧ Digs r ∧ val r < vb ∧ (∃ Q, Q * vb + val r = val (a.drop t) ∧ val q = 65536 ^ t * Q) ∧ (∀ j, j < t → dg q j = 0) ∧ r.length + 32 * t ≤ 32 * a.length
/-- of digit i the bits from m on are divided, too -/
def In (a : List Nat) (vb i m : Nat) (q r : List Nat) : Prop :=
  q.length = a.length ∧ Digs q ∧ Digs r ∧ val r < vb ∧ (∃ Q, Q * vb + val r = val (a.drop i) / 2 ^ m ∧ val q = 65536 ^ i * (2 ^ m * Q)) ∧ (∀ j, j < i → dg q j = 0) ∧ dg q i % 2 ^ m = 0 ∧ r.length + 32 * i + 2 * m ≤ 32 * a.length
theorem Out.start (a : List Nat) (vb : Nat) (h : 0 < vb) : Out a vb a.length (List.replicate a.length 0) [] := by
  refine ⟨by simp, Digs.rep _, Digs.nil, by simpa [val] using h, ⟨0, ?_, ?_⟩, fun j _ => ?_, ?_⟩
  · rw [List.drop_of_length_le (Nat.le_refl _)]; simp [val]
  · rw [val_rep]; simp
  · unfold dg; simp [List.getD_eq_getElem?_getD, List.getElem?_replicate]; split <;> rfl
  · simp
theorem Out.enter {a q r : List Nat} {vb i : Nat} (h : Out a vb (i + 1) q r) (ha : Digs a) : In a vb i 16 q r := by
  obtain ⟨h1, h2, h3, h4, ⟨Q, hQ, hq⟩, h6, h7⟩ := h
  refine ⟨h1, h2, h3, h4, ⟨Q, ?_, ?_⟩, fun j hj => h6 j (by omega), ?_, by omega⟩
  · have := ha.dg i
    rw [hQ, val_drop a i]; omega
  · rw [hq, Nat.pow_succ, Nat.mul_assoc]
  · rw [h6 i (by omega)]
theorem Out.skip {a q r : List Nat} {vb i : Nat} (h : Out a vb (i + 1) q r) (h0 : dg a i = 0) (hr : r.length = 0) : Out a vb i q r := by
  obtain ⟨h1, h2, h3, h4, ⟨Q, hQ, hq⟩, h6, h7⟩ := h
  have e : val r = 0 := by rw [List.eq_nil_of_length_eq_zero hr]; rfl
  refine ⟨h1, h2, h3, h4, ⟨65536 * Q, ?_, ?_⟩, fun j hj => h6 j (by omega), by omega⟩
  · rw [val_drop, h0, ← hQ, e, Nat.mul_assoc, Nat.zero_add, Nat.add_zero, Nat.add_zero]
  · rw [hq, Nat.pow_succ, Nat.mul_assoc]
theorem In.leave {a q r : List Nat} {vb i : Nat} (h : In a vb i 0 q r) : Out a vb i q r := by
  obtain ⟨h1, h2, h3, h4, ⟨Q, hQ, hq⟩, h6, _, h7⟩ := h
  exact ⟨h1, h2, h3, h4, ⟨Q, by simpa using hQ, by simpa using hq⟩, h6, by omega⟩
theorem two16 {m : Nat} (hm : m ≤ 16) : ∃ k, 65536 = 2 ^ m * 2 ^ k ∧ k + m = 16 := ⟨16 - m, by rw [← Nat.pow_add]; rw [show m + (16 - m) = 16 by omega], by omega⟩
theorem bit_of (a : List Nat) (i m : Nat) (hm : m ≤ 15) : val (a.drop i) / 2 ^ m = 2 * (val (a.drop i) / 2 ^ (m + 1)) + dg a i / 2 ^ m % 2 := by
  rw [val_drop]
  obtain ⟨k, hk, hkm⟩ := two16 (m := m + 1) (by omega)
  have e : dg a i + 65536 * val (a.drop (i + 1)) = dg a i + 2 ^ m * (2 * (2 ^ k * val (a.drop (i + 1)))) := by
    rw [hk, Nat.pow_succ]; simp only [Nat.mul_assoc]
  rw [e, Nat.add_mul_div_left _ _ (Nat.pow_pos (by decide)), Nat.pow_succ, ← Nat.div_div_eq_div_mul, Nat.add_mul_div_left _ _ (Nat.pow_pos (by decide))]
  omega
/-- the next bit; d: the quotient's bit -/
theorem In.next0 {a q r r' : List Nat} {vb i m : Nat} (h : In a vb i (m + 1) q r) (hm : m ≤ 15) (hg : Digs r') (hv : val r' = 2 * val r + dg a i / 2 ^ m % 2) (hlt : val r' < vb) (hl : r'.length ≤ r.length + 2) :
    In a vb i m q r' := by
  obtain ⟨h1, h2, h3, h4, ⟨Q, hQ, hq⟩, h6, h7, h8⟩ := h
  refine ⟨h1, h2, hg, hlt, ⟨2 * Q, ?_, ?_⟩, h6, ?_, by omega⟩
  · rw [bit_of a i m hm, ← hQ, hv, Nat.mul_assoc]; omega
  · rw [hq, Nat.pow_succ, Nat.mul_assoc]
  · have : 2 ^ m ∣ dg q i := Nat.dvd_trans (Nat.pow_dvd_pow 2 (Nat.le_succ m)) (Nat.dvd_of_mod_eq_zero h7)
    exact Nat.mod_eq_zero_of_dvd this
theorem In.room {a q r : List Nat} {vb i m : Nat} (h : In a vb i (m + 1) q r) (hm : m ≤ 15) : dg q i + 2 ^ m < 65536 := by
  obtain ⟨h1, h2, h3, h4, _, h6, h7, h8⟩ := h
  obtain ⟨k, hk, hkm⟩ := two16 (m := m + 1) (by omega)
  obtain ⟨t, ht⟩ := Nat.dvd_of_mod_eq_zero h7
  have hd := h2.dg i
  rw [ht, hk] at hd
  have ht' : t < 2 ^ k := Nat.lt_of_mul_lt_mul_left hd
  have := Nat.mul_le_mul_left (2 ^ (m + 1)) (show t + 1 ≤ 2 ^ k from ht')
  rw [← hk, Nat.mul_add, ← ht, Nat.mul_one, Nat.pow_succ] at this
  have := Nat.two_pow_pos m
  omega
theorem In.next1 {a q r r' : List Nat} {vb i m : Nat} (h : In a vb i (m + 1) q r) (hm : m ≤ 15) (hi : i < a.length) (hg : Digs r') (hv : val r' + vb = 2 * val r + dg a i / 2 ^ m % 2) (hl : r'.length ≤ r.length + 2) :
    In a vb i m (q.set i (dg q i + 2 ^ m)) r' := by
  have hroom := h.room hm
  obtain ⟨h1, h2, h3, h4, ⟨Q, hQ, hq⟩, h6, h7, h8⟩ := h
  refine ⟨by simp [h1], h2.set _ _ hroom, hg, by omega, ⟨2 * Q + 1, ?_, ?_⟩, fun j hj => ?_, ?_, by omega⟩
  · rw [bit_of a i m hm, ← hQ, Nat.add_mul, Nat.mul_assoc]; omega
  · have hs := val_set q i (dg q i + 2 ^ m) (by omega)
    rw [Nat.mul_add] at hs
    have e : val (q.set i (dg q i + 2 ^ m)) = val q + 65536 ^ i * 2 ^ m := by omega
    rw [e, hq, ← Nat.mul_add]
    congr 1
    rw [Nat.pow_succ, Nat.mul_assoc, Nat.mul_add, Nat.mul_one]
  · rw [dg_set_ne _ _ _ _ (by omega)]; exact h6 j hj
  · rw [dg_set_eq _ _ _ (by omega)]
    have : 2 ^ m ∣ dg q i := Nat.dvd_trans (Nat.pow_dvd_pow 2 (Nat.le_succ m)) (Nat.dvd_of_mod_eq_zero h7)
    exact Nat.mod_eq_zero_of_dvd (Nat.dvd_add this (Nat.dvd_refl _))
theorem Out.over {a q r : List Nat} {vb : Nat} (h : Out a vb 0 q r) : Digs q ∧ Digs r ∧ val q = val a / vb ∧ val r = val a % vb ∧ q.length = a.length ∧ r.length ≤ 32 * a.length := by
  obtain ⟨h1, h2, h3, h4, ⟨Q, hQ, hq⟩, _, h7⟩ := h
  simp at hQ hq
  have e1 : val a / vb = Q := by
    rw [← hQ, Nat.mul_comm, Nat.mul_add_div (by omega), Nat.div_eq_of_lt h4]; omega
  have e2 : val a % vb = val r := by
    rw [← hQ, Nat.mul_comm, Nat.mul_add_mod, Nat.mod_eq_of_lt h4]
  exact ⟨h2, h3, by omega, by omega, h1, by omega⟩
/-! ### bits -/
/-- n has k bits -/
def BL (n k : Nat) : Prop := n < 2 ^ k ∧ (0 < k → 2 ^ (k - 1) ≤ n)
theorem BL.uniq {n k k' : Nat} (h : BL n k) (h' : BL n k') : k = k' := by
  have key : ∀ {x y : Nat}, BL n x → BL n y → ¬ x < y := by
    intro x y hx hy hlt
    have h1 := hx.1
    have h2 := hy.2 (by omega)
    have h3 : 2 ^ x ≤ 2 ^ (y - 1) := Nat.pow_le_pow_right (by decide) (by omega)
    omega
  have a := key h h'
  have b := key h' h
  omega
theorem BL.zero : BL 0 0 := ⟨by decide, fun h => by omega⟩
/-- below bit m of digit i, and above it, all are 0 -/
def Hi (a : List Nat) (i m : Nat) : Prop := val (a.drop (i + 1)) = 0 ∧ dg a i < 2 ^ m
theorem Hi.found {a : List Nat} {i m : Nat} (h : Hi a i (m + 1)) (ha : Digs a) (hb : dg a i / 2 ^ m % 2 = 1) : BL (val a) (16 * i + m + 1) := by
  obtain ⟨h1, h2⟩ := h
  have l := take_lt a i ha
  have e : val a = val (a.take i) + 65536 ^ i * dg a i := by
    have e1 := val_take_mod a i ha
    have e2 := val_drop_div a i ha
    rw [val_drop, h1, Nat.mul_zero, Nat.add_zero] at e2
    rw [e1, e2, Nat.mod_add_div]
  have hp : 2 ^ m ≤ dg a i := by
    apply Nat.le_of_not_lt; intro hc
    rw [Nat.div_eq_of_lt hc] at hb
    cases hb
  have e2 : (65536 : Nat) ^ i = 2 ^ (16 * i) := by rw [Nat.pow_mul]
  rw [e2] at l e
  refine ⟨?_, fun _ => ?_⟩
  · have := Nat.mul_le_mul_left (2 ^ (16 * i)) (show dg a i + 1 ≤ 2 ^ (m + 1) from h2)
    rw [← Nat.pow_add, Nat.mul_add] at this
    rw [Nat.add_assoc]; omega
  · have := Nat.mul_le_mul_left (2 ^ (16 * i)) hp
    rw [← Nat.pow_add] at this
    show 2 ^ (16 * i + m) ≤ _
    omega
theorem Hi.on {a : List Nat} {i m : Nat} (h : Hi a i (m + 1)) (hb : ¬ dg a i / 2 ^ m % 2 = 1) : Hi a i m := by
  obtain ⟨h1, h2⟩ := h
  refine ⟨h1, ?_⟩
  have : dg a i / 2 ^ m < 2 := by rw [Nat.div_lt_iff_lt_mul (Nat.pow_pos (by decide)), Nat.mul_comm, ← Nat.pow_succ]; exact h2
  have h0 : dg a i / 2 ^ m = 0 := by
    generalize dg a i / 2 ^ m = z at *
    omega
  exact (Nat.div_eq_zero_iff_lt (Nat.pow_pos (by decide))).1 h0
theorem Hi.zero {a : List Nat} {i : Nat} (h : Hi a i 0) : val (a.drop i) = 0 := by
  rw [val_drop, h.1]
  have := h.2
  simp at this
  omega
theorem Hi.start {a : List Nat} {i : Nat} (h : val (a.drop (i + 1)) = 0) (ha : Digs a) : Hi a i 16 := ⟨h, ha.dg i⟩
end DigM
