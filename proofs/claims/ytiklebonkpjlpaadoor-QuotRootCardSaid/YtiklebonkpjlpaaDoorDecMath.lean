/-
  Numbers' digits in groups: plain mathematics, of no program.
-/
import Derived.Lib.ItoaNum
import Derived.Lib.Repeat
namespace DecM
open Go.Lib
theorem dec_small {n : Nat} (h : n < 10) : decDigits n = [UInt8.ofNat (48 + n)] := by rw [decDigits, dif_pos h]
theorem dec_big {n : Nat} (h : 10 ≤ n) : decDigits n = decDigits (n / 10) ++ [UInt8.ofNat (48 + n % 10)] := by rw [decDigits, dif_neg (by omega)]
theorem nDig_le : ∀ (k u : Nat), u < 10 ^ (k + 1) → nDigits u ≤ k + 1
  | 0, u, h => by rw [nDigits_small (by simpa using h)]; exact Nat.le_refl _
  | k + 1, u, h => by
    by_cases h10 : u < 10
    · rw [nDigits_small h10]; omega
    · rw [nDigits_big h10]
      have := nDig_le k (u / 10) (by rw [Nat.pow_succ] at h; omega)
      omega
/-- r's digits, with noughts ahead to k places -/
def pad (k r : Nat) : List UInt8 := List.replicate (k - nDigits r) 48 ++ decDigits r
theorem pad_length {k r : Nat} (h : nDigits r ≤ k) : (pad k r).length = k := by
  unfold pad; rw [List.length_append, List.length_replicate, decDigits_length]; omega
theorem pad_one {r : Nat} (h : r < 10) : pad 1 r = [UInt8.ofNat (48 + r)] := by
  unfold pad; rw [nDigits_small h, dec_small h]; rfl
theorem pad_step {k r : Nat} (hk : 1 ≤ k) : pad (k + 1) r = pad k (r / 10) ++ [UInt8.ofNat (48 + r % 10)] := by
  unfold pad
  by_cases h : r < 10
  · have e : r / 10 = 0 := by omega
    have e2 : r % 10 = r := by omega
    rw [e, e2, nDigits_small h, nDigits_small (show 0 < 10 by decide), dec_small h, dec_small (show 0 < 10 by decide)]
    have e3 : k + 1 - 1 = (k - 1) + 1 := by omega
    rw [e3, List.replicate_succ']
    rfl
  · rw [nDigits_big h, dec_big (by omega), List.append_assoc]
    have e3 : k + 1 - (nDigits (r / 10) + 1) = k - nDigits (r / 10) := by omega
    rw [e3]
theorem dec_group : ∀ (k n : Nat), 10 ^ (k + 1) ≤ n → decDigits n = decDigits (n / 10 ^ (k + 1)) ++ pad (k + 1) (n % 10 ^ (k + 1))
  | 0, n, h => by
    rw [Nat.zero_add, Nat.pow_one] at *
    rw [dec_big h, pad_one (by omega)]
  | k + 1, n, h => by
    have hp := Nat.pow_pos (n := k + 1) (show 0 < 10 by decide)
    have e : 10 ^ (k + 1 + 1) = 10 * 10 ^ (k + 1) := by rw [Nat.pow_succ, Nat.mul_comm]
    have h10 : 10 ≤ n := by omega
    have hd : 10 ^ (k + 1) ≤ n / 10 := by omega
    rw [dec_big h10, dec_group k (n / 10) hd, e, pad_step (k := k + 1) (r := n % (10 * 10 ^ (k + 1))) (by omega), ← Nat.div_div_eq_div_mul, List.append_assoc]
    have e1 : n % (10 * 10 ^ (k + 1)) / 10 = n / 10 % 10 ^ (k + 1) := by rw [Nat.mod_mul_right_div_self]
    have e2 : n % (10 * 10 ^ (k + 1)) % 10 = n % 10 := Nat.mod_mul_right_mod n 10 _
    rw [e1, e2]
theorem repeat48 : ∀ c, repeatL [48] c = List.replicate c 48
  | 0 => rfl
  | c + 1 => by rw [repeatL, repeat48 c]; rfl
/-- texts, the last one first -/
def back (gs : List (List UInt8)) : List UInt8 := gs.reverse.flatten
theorem back_snoc (gs : List (List UInt8)) (g : List UInt8) : back (gs ++ [g]) = g ++ back gs := by simp [back]
theorem back_cons (gs : List (List UInt8)) (g : List UInt8) : back (g :: gs) = back gs ++ g := by
  unfold back; rw [List.reverse_cons, List.flatten_append, List.flatten_cons, List.flatten_nil, List.append_nil]
theorem back_drop {gs : List (List UInt8)} {m : Nat} (h : m < gs.length) : back (gs.drop m) = back (gs.drop (m + 1)) ++ gs[m] := by
  rw [List.drop_eq_getElem_cons h, back_cons]
theorem back_none {gs : List (List UInt8)} : back (gs.drop gs.length) = [] := by simp [back]
theorem back_length (k : Nat) : ∀ (gs : List (List UInt8)), (∀ g ∈ gs, g.length ≤ k) → (back gs).length ≤ k * gs.length
  | [], _ => by simp [back]
  | g :: gs, h => by
    rw [back_cons, List.length_append, List.length_cons, Nat.mul_add]
    have h1 := back_length k gs (fun x hx => h x (List.mem_cons_of_mem _ hx))
    have h2 := h g (List.mem_cons_self ..)
    omega
end DecM
