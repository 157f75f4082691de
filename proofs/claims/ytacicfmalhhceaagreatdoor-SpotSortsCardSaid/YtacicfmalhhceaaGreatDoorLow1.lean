/-
  Texts of the layers below in one: DigMath DigMath2 Dig Dig2 Dig3 Dig4 Dig5.
-/
import Derived.Test.YtacicfmalhhceaaGreatDoorRows
import Derived.WalkKit
import Derived.Outline
import Derived.LoopTactic
import Derived.WalkSpells
import Derived.IntWalk
import Derived.Lib.Hide
import Derived.WalkLawsBesides
import Derived.OwnWalk
import Derived.WalkSmall
import Derived.Deep.QuietTactic
import Derived.BigQuiet
import Derived.Carry
/- Numbers as lists of digits of 16 bits, the lowest ones first: plain mathematics, of no program. -/
namespace DigM
def val : List Nat → Nat
  | [] => 0
  | d :: ds => d + 65536 * val ds
def Digs (ds : List Nat) : Prop := ∀ d ∈ ds, d < 65536
def dg (ds : List Nat) (i : Nat) : Nat := ds.getD i 0
theorem dg_lt {ds : List Nat} {i : Nat} (h : i < ds.length) : dg ds i = ds[i] := by unfold dg; simp [h]
theorem dg_ge {ds : List Nat} {i : Nat} (h : ds.length ≤ i) : dg ds i = 0 := by unfold dg; simp [h]
theorem Digs.dg {ds : List Nat} (h : Digs ds) (i : Nat) : dg ds i < 65536 := by
  by_cases hi : i < ds.length
  · rw [dg_lt hi]; exact h _ (List.getElem_mem hi)
  · rw [dg_ge (by omega)]; decide
theorem Digs.nil : Digs [] := fun _ h => by cases h
theorem Digs.snoc {ds : List Nat} {d : Nat} (h : Digs ds) (hd : d < 65536) : Digs (ds ++ [d]) := by
  intro x hx
  rcases List.mem_append.1 hx with hx | hx
  · exact h x hx
  · rw [List.mem_singleton] at hx; rw [hx]; exact hd
theorem Digs.append {a b : List Nat} (ha : Digs a) (hb : Digs b) : Digs (a ++ b) := by
  intro x hx
  rcases List.mem_append.1 hx with hx | hx
  · exact ha x hx
  · exact hb x hx
theorem Digs.take {a : List Nat} (ha : Digs a) (k : Nat) : Digs (a.take k) := fun x hx => ha x (List.mem_of_mem_take hx)
theorem Digs.drop {a : List Nat} (ha : Digs a) (k : Nat) : Digs (a.drop k) := fun x hx => ha x (List.mem_of_mem_drop hx)
theorem Digs.set {a : List Nat} (ha : Digs a) (k d : Nat) (hd : d < 65536) : Digs (a.set k d) := by
  intro x hx
  rcases List.mem_or_eq_of_mem_set hx with hx | hx
  · exact ha x hx
  · rw [hx]; exact hd
theorem Digs.rep (n : Nat) : Digs (List.replicate n 0) := fun x hx => by rw [List.eq_of_mem_replicate hx]; decide
theorem val_append : ∀ (a b : List Nat), val (a ++ b) = val a + 65536 ^ a.length * val b
  | [], b => by simp [val]
  | d :: a, b => by
    have := val_append a b
    simp only [List.cons_append, val, this, List.length_cons, Nat.pow_succ]
    rw [Nat.mul_add, ← Nat.mul_assoc, Nat.mul_comm 65536 (65536 ^ a.length)]
    omega
theorem val_snoc (a : List Nat) (d : Nat) : val (a ++ [d]) = val a + 65536 ^ a.length * d := by rw [val_append]; simp [val]
theorem val_lt : ∀ (ds : List Nat), Digs ds → val ds < 65536 ^ ds.length
  | [], _ => by simp [val]
  | d :: ds, h => by
    have h1 := val_lt ds (fun x hx => h x (List.mem_cons_of_mem _ hx))
    have h2 := h d (List.mem_cons_self ..)
    simp only [val, List.length_cons, Nat.pow_succ]
    omega
theorem val_split (ds : List Nat) (k : Nat) (h : k ≤ ds.length) : val ds = val (ds.take k) + 65536 ^ k * val (ds.drop k) := by
  have := val_append (ds.take k) (ds.drop k)
  rw [List.take_append_drop, List.length_take, Nat.min_eq_left h] at this
  exact this
theorem val_take (ds : List Nat) (k : Nat) : val (ds.take (k + 1)) = val (ds.take k) + 65536 ^ k * dg ds k := by
  by_cases h : k < ds.length
  · rw [List.take_succ_eq_append_getElem h, val_snoc, List.length_take, Nat.min_eq_left (by omega), dg_lt h]
  · rw [List.take_of_length_le (by omega), List.take_of_length_le (by omega), dg_ge (by omega)]; simp
theorem val_drop (ds : List Nat) (k : Nat) : val (ds.drop k) = dg ds k + 65536 * val (ds.drop (k + 1)) := by
  by_cases h : k < ds.length
  · rw [List.drop_eq_getElem_cons h, dg_lt h]; rfl
  · rw [List.drop_of_length_le (by omega), List.drop_of_length_le (by omega), dg_ge (by omega)]; rfl
theorem val_full (ds : List Nat) (k : Nat) (h : ds.length ≤ k) : val (ds.take k) = val ds := by rw [List.take_of_length_le h]
theorem val_take_le (ds : List Nat) (k : Nat) : val (ds.take k) ≤ val ds := by
  by_cases h : k ≤ ds.length
  · rw [val_split ds k h]; omega
  · rw [val_full ds k (by omega)]; omega
theorem val_rep : ∀ n : Nat, val (List.replicate n 0) = 0
  | 0 => rfl
  | n + 1 => by rw [List.replicate_succ]; simp [val, val_rep n]
theorem dg_le (ds : List Nat) (k : Nat) : 65536 ^ k * dg ds k ≤ val ds := by
  have h1 := val_take ds k
  have h2 := val_take_le ds (k + 1)
  omega
theorem val_set (ds : List Nat) (k d : Nat) (h : k < ds.length) : val (ds.set k d) + 65536 ^ k * dg ds k = val ds + 65536 ^ k * d := by
  have h1 := val_split (ds.set k d) (k + 1) (by simp; omega)
  have h2 := val_split ds (k + 1) (by omega)
  have h3 := val_take (ds.set k d) k
  have h4 := val_take ds k
  have e1 : (ds.set k d).take k = ds.take k := List.take_set_of_le (Nat.le_refl _)
  have e2 : (ds.set k d).drop (k + 1) = ds.drop (k + 1) := List.drop_set_of_lt (by omega)
  have e3 : dg (ds.set k d) k = d := by rw [dg_lt (by simp; exact h)]; simp
  rw [e1, e3] at h3
  rw [e2] at h1
  omega
theorem dg_set_ne (ds : List Nat) (k d j : Nat) (h : j ≠ k) : dg (ds.set k d) j = dg ds j := by
  unfold dg
  simp only [List.getD_eq_getElem?_getD]
  rw [List.getElem?_set_ne (fun e => h e.symm)]
theorem dg_set_eq (ds : List Nat) (k d : Nat) (h : k < ds.length) : dg (ds.set k d) k = d := by rw [dg_lt (by simp; exact h)]; simp
/-! ### a sum, digit by digit -/
theorem plus_step (a b o : List Nat) (k c : Nat) (hl : o.length = k) (h : val o + 65536 ^ k * c = val (a.take k) + val (b.take k)) :
    val (o ++ [(dg a k + dg b k + c) % 65536]) + 65536 ^ (k + 1) * ((dg a k + dg b k + c) / 65536) = val (a.take (k + 1)) + val (b.take (k + 1)) := by
  rw [val_snoc, hl, val_take, val_take, Nat.pow_succ, Nat.mul_assoc]
  have e := Nat.mod_add_div (dg a k + dg b k + c) 65536
  have : 65536 ^ k * ((dg a k + dg b k + c) % 65536) + 65536 ^ k * (65536 * ((dg a k + dg b k + c) / 65536)) = 65536 ^ k * dg a k + 65536 ^ k * dg b k + 65536 ^ k * c := by
    rw [← Nat.mul_add, e, Nat.mul_add, Nat.mul_add]
  omega
/-- k digits of a sum are told, c is carried -/
def Sum (a b : List Nat) (k : Nat) (o : List Nat) (c : Nat) : Prop :=
  o.length = k ∧ Digs o ∧ c ≤ 1 ∧ val o + 65536 ^ k * c = val (a.take k) + val (b.take k) ∧ k ≤ max a.length b.length + 1 ∧ (max a.length b.length < k → c = 0)
theorem Sum.start (a b : List Nat) : Sum a b 0 [] 0 := ⟨rfl, Digs.nil, by decide, by simp [val], by omega, by omega⟩
theorem Sum.next {a b o : List Nat} {k c : Nat} (h : Sum a b k o c) (ha : Digs a) (hb : Digs b) (hk : k < a.length ∨ k < b.length ∨ 0 < c) :
    Sum a b (k + 1) (o ++ [(dg a k + dg b k + c) % 65536]) ((dg a k + dg b k + c) / 65536) ∧ dg a k + dg b k + c ≤ 131071 := by
  obtain ⟨h1, h2, h3, h4, h5, h6⟩ := h
  have d1 := ha.dg k
  have d2 := hb.dg k
  have hkm : k ≤ max a.length b.length := by
    apply Nat.le_of_not_lt; intro hc
    have := h6 hc
    omega
  refine ⟨⟨by simp [h1], h2.snoc (by omega), by omega, plus_step a b o k c h1 h4, by omega, fun hlt => ?_⟩, by omega⟩
  have e1 : dg a k = 0 := dg_ge (by omega)
  have e2 : dg b k = 0 := dg_ge (by omega)
  omega
theorem Sum.over {a b o : List Nat} {k c : Nat} (h : Sum a b k o c) (hk : ¬ (k < a.length ∨ k < b.length ∨ 0 < c)) :
    Digs o ∧ val o = val a + val b ∧ o.length ≤ max a.length b.length + 1 := by
  obtain ⟨h1, h2, h3, h4, h5, h6⟩ := h
  have hc : c = 0 := by omega
  rw [hc, val_full a k (by omega), val_full b k (by omega)] at h4
  exact ⟨h2, by omega, by omega⟩
/-! ### four digits as a word -/
def wordAt (ds : List Nat) (at' : Nat) : Nat := val ((ds.drop at').take 4)
theorem word_step (ds : List Nat) (p j : Nat) : val ((ds.drop (p + j)).take (4 - (j + 1) + 1)) = val ((ds.drop (p + (j + 1))).take (4 - (j + 1))) * 65536 + dg ds (p + j) := by
  by_cases h : p + j < ds.length
  · rw [List.drop_eq_getElem_cons h, List.take_succ_cons, dg_lt h]
    simp only [val]
    rw [← Nat.add_assoc p j 1]; omega
  · rw [List.drop_of_length_le (by omega), List.drop_of_length_le (by omega), dg_ge (by omega)]; simp [val]
theorem take_lt (ds : List Nat) (k : Nat) (h : Digs ds) : val (ds.take k) < 65536 ^ k := by
  have h1 := val_lt (ds.take k) (h.take k)
  have h2 : 65536 ^ (ds.take k).length ≤ 65536 ^ k := Nat.pow_le_pow_right (by decide) (by rw [List.length_take]; omega)
  omega
theorem val_take_mod (ds : List Nat) (k : Nat) (h : Digs ds) : val (ds.take k) = val ds % 65536 ^ k := by
  have h1 := take_lt ds k h
  by_cases hk : k ≤ ds.length
  · rw [val_split ds k hk, Nat.add_mul_mod_self_left, Nat.mod_eq_of_lt h1]
  · rw [val_full ds k (by omega)] at h1 ⊢
    rw [Nat.mod_eq_of_lt h1]
theorem val_drop_div (ds : List Nat) (k : Nat) (h : Digs ds) : val (ds.drop k) = val ds / 65536 ^ k := by
  have h1 := take_lt ds k h
  by_cases hk : k ≤ ds.length
  · rw [val_split ds k hk, Nat.add_mul_div_left _ _ (Nat.pow_pos (by decide)), Nat.div_eq_of_lt h1, Nat.zero_add]
  · rw [val_full ds k (by omega)] at h1
    rw [Nat.div_eq_of_lt h1, List.drop_of_length_le (by omega)]; rfl
theorem wordAt_eq (ds : List Nat) (p : Nat) (h : Digs ds) : wordAt ds p = val ds / 65536 ^ p % 18446744073709551616 := by
  unfold wordAt
  rw [val_take_mod _ 4 (h.drop p), val_drop_div ds p h]
theorem wordAt_0 (ds : List Nat) (h : Digs ds) : wordAt ds 0 = val ds % 18446744073709551616 := by rw [wordAt_eq ds 0 h]; simp
theorem wordAt_4 (ds : List Nat) (h : Digs ds) : wordAt ds 4 = val ds / 18446744073709551616 % 18446744073709551616 := wordAt_eq ds 4 h
/-! ### a word's four digits -/
def digits (a : Nat) : List Nat := [a % 65536, a / 65536 % 65536, a / 4294967296 % 65536, a / 281474976710656]
theorem digits_good (a : Nat) (h : a < 18446744073709551616) : Digs (digits a) := by
  intro x hx
  simp [digits] at hx
  omega
theorem digits_val (a : Nat) : val (digits a) = a := by simp only [digits, val]; omega
/-! ### less -/
theorem less_at (a b : List Nat) (j : Nat) (ha : Digs a) (hb : Digs b) (hd : val (a.drop (j + 1)) = val (b.drop (j + 1))) (hn : dg a j ≠ dg b j) : (val a < val b) = (dg a j < dg b j) := by
  have e : ∀ ds, Digs ds → val ds = val (ds.take j) + 65536 ^ j * (dg ds j + 65536 * val (ds.drop (j + 1))) := fun ds h => by
    rw [← val_drop, val_take_mod ds j h, val_drop_div ds j h, Nat.mod_add_div]
  have l1 := take_lt a j ha
  have l2 := take_lt b j hb
  rw [e a ha, e b hb, hd]
  generalize val (b.drop (j + 1)) = t at *
  generalize dg a j = x at *
  generalize dg b j = y at *
  rw [eq_iff_iff]
  constructor
  · intro h
    apply Nat.lt_of_not_le
    intro hc
    have hc' : y + 65536 * t + 1 ≤ x + 65536 * t := by omega
    have := Nat.mul_le_mul_left (65536 ^ j) hc'
    rw [Nat.mul_add, Nat.mul_one] at this
    omega
  · intro h
    have hc' : x + 65536 * t + 1 ≤ y + 65536 * t := by omega
    have := Nat.mul_le_mul_left (65536 ^ j) hc'
    rw [Nat.mul_add, Nat.mul_one] at this
    omega
/-! ### a difference, digit by digit -/
def Dif (a b : List Nat) (k : Nat) (o : List Nat) (c : Nat) : Prop :=
  o.length = k ∧ Digs o ∧ c ≤ 1 ∧ val o + val (b.take k) = val (a.take k) + 65536 ^ k * c
theorem Dif.start (a b : List Nat) : Dif a b 0 [] 0 := ⟨rfl, Digs.nil, by decide, by simp [val]⟩
theorem Dif.next {a b o : List Nat} {k c : Nat} (h : Dif a b k o c) (ha : Digs a) (hb : Digs b) :
    Dif a b (k + 1) (o ++ [(65536 + dg a k - dg b k - c) % 65536]) (1 - (65536 + dg a k - dg b k - c) / 65536) ∧ dg b k ≤ 65535 ∧ dg a k ≤ 65535 ∧ c ≤ 1 ∧ (65536 + dg a k - dg b k - c) / 65536 ≤ 1 := by
  obtain ⟨h1, h2, h3, h4⟩ := h
  have d1 := ha.dg k
  have d2 := hb.dg k
  refine ⟨⟨by simp [h1], h2.snoc (by omega), by omega, ?_⟩, by omega, by omega, h3, by omega⟩
  rw [val_snoc, h1, val_take, val_take, Nat.pow_succ]
  have e : 65536 ^ k * ((65536 + dg a k - dg b k - c) % 65536) + 65536 ^ k * dg b k + 65536 ^ k * c = 65536 ^ k * dg a k + 65536 ^ k * 65536 * (1 - (65536 + dg a k - dg b k - c) / 65536) := by
    rw [Nat.mul_assoc, ← Nat.mul_add, ← Nat.mul_add, ← Nat.mul_add]
    congr 1
    omega
  omega
theorem Dif.over {a b o : List Nat} {k c : Nat} (h : Dif a b k o c) (hk : k = a.length) (ha : Digs a) (_hb : Digs b) (hle : val b ≤ val a) : Digs o ∧ val o = val a - val b ∧ o.length = a.length := by
  obtain ⟨h1, h2, h3, h4⟩ := h
  have l1 := val_lt o h2
  have l2 := val_lt a ha
  rw [h1] at l1
  rw [hk] at h4 l1 h1
  rw [val_full a a.length (Nat.le_refl _)] at h4
  have l3 := val_take_le b a.length
  have hc : c = 0 := by
    rcases Nat.le_one_iff_eq_zero_or_eq_one.1 h3 with h | h
    · exact h
    · rw [h] at h4; omega
  have e : val (b.take a.length) = val b := by
    by_cases hb' : b.length ≤ a.length
    · exact val_full b _ hb'
    · have s := val_split b a.length (by omega)
      have : val (b.drop a.length) = 0 := by
        apply Nat.eq_zero_of_not_pos
        intro hp
        have := Nat.mul_le_mul_left (65536 ^ a.length) hp
        omega
      rw [this] at s; omega
  rw [hc, e] at h4
  exact ⟨h2, by omega, h1⟩
end DigM

/- Products, quotients and bits of numbers as lists of digits of 16 bits: plain mathematics, of no program. -/
namespace DigM
/-! ### a product, row by row -/
def Prod (a b : List Nat) (i : Nat) (o : List Nat) : Prop := o.length = a.length + b.length ∧ Digs o ∧ val o = val (a.take i) * val b
def Row (a b : List Nat) (i k : Nat) (o : List Nat) (c : Nat) : Prop :=
  o.length = a.length + b.length ∧ Digs o ∧ c < 65536 ∧ val o + 65536 ^ (i + k) * c = val (a.take i) * val b + 65536 ^ i * (dg a i * val (b.take k))
theorem Prod.start (a b : List Nat) : Prod a b 0 (List.replicate (a.length + b.length) 0) := ⟨by simp, Digs.rep _, by rw [val_rep]; simp [val]⟩
theorem Prod.skip {a b o : List Nat} {i : Nat} (h : Prod a b i o) (h0 : dg a i = 0) : Prod a b (i + 1) o := by
  obtain ⟨h1, h2, h3⟩ := h
  exact ⟨h1, h2, by rw [h3, val_take, h0]; simp⟩
theorem Prod.row {a b o : List Nat} {i : Nat} (h : Prod a b i o) : Row a b i 0 o 0 := by
  obtain ⟨h1, h2, h3⟩ := h
  exact ⟨h1, h2, by decide, by rw [h3]; simp [val]⟩
theorem Row.bound {a b o : List Nat} {i k c : Nat} (h : Row a b i k o c) (ha : Digs a) (hb : Digs b) :
    dg o (i + k) ≤ 65535 ∧ dg a i ≤ 65535 ∧ dg b k ≤ 65535 ∧ dg a i * dg b k ≤ 4294836225 ∧ c ≤ 65535 := by
  obtain ⟨h1, h2, h3, h4⟩ := h
  have d0 := h2.dg (i + k)
  have d1 := ha.dg i
  have d2 := hb.dg k
  have := Nat.mul_le_mul (show dg a i ≤ 65535 by omega) (show dg b k ≤ 65535 by omega)
  exact ⟨by omega, by omega, by omega, by omega, by omega⟩
theorem Row.next {a b o : List Nat} {i k c : Nat} (h : Row a b i k o c) (ha : Digs a) (hb : Digs b) (hi : i < a.length) (hk : k < b.length) :
    Row a b i (k + 1) (o.set (i + k) ((dg o (i + k) + dg a i * dg b k + c) % 65536)) ((dg o (i + k) + dg a i * dg b k + c) / 65536) := by
  have hbd := h.bound ha hb
  obtain ⟨h1, h2, h3, h4⟩ := h
  refine ⟨by simp [h1], h2.set _ _ (by omega), by omega, ?_⟩
  have hs := val_set o (i + k) ((dg o (i + k) + dg a i * dg b k + c) % 65536) (by omega)
  have ht := val_take b k
  have hp : 65536 ^ (i + (k + 1)) = 65536 ^ (i + k) * 65536 := by rw [← Nat.add_assoc, Nat.pow_succ]
  rw [hp, ht, Nat.mul_add (dg a i), Nat.mul_add (65536 ^ i), ← Nat.add_assoc, ← h4]
  have e1 : 65536 ^ i * (dg a i * (65536 ^ k * dg b k)) = 65536 ^ (i + k) * (dg a i * dg b k) := by
    rw [Nat.pow_add]
    simp only [Nat.mul_assoc, Nat.mul_left_comm]
  rw [e1]
  generalize dg a i * dg b k = m at *
  have e2 : 65536 ^ (i + k) * ((dg o (i + k) + m + c) % 65536) + 65536 ^ (i + k) * 65536 * ((dg o (i + k) + m + c) / 65536) = 65536 ^ (i + k) * dg o (i + k) + 65536 ^ (i + k) * m + 65536 ^ (i + k) * c := by
    rw [Nat.mul_assoc, ← Nat.mul_add, Nat.mod_add_div, Nat.mul_add, Nat.mul_add]
  omega
theorem Row.over {a b o : List Nat} {i k c : Nat} (h : Row a b i k o c) (ha : Digs a) (hb : Digs b) (hi : i < a.length) (hk : k = b.length) :
    Prod a b (i + 1) (o.set (i + b.length) (dg o (i + b.length) + c)) ∧ dg o (i + b.length) + c < 65536 := by
  obtain ⟨h1, h2, h3, h4⟩ := h
  subst hk
  have hs := val_set o (i + b.length) (dg o (i + b.length) + c) (by omega)
  rw [val_full b b.length (Nat.le_refl _)] at h4
  have hv : val (a.take i) * val b + 65536 ^ i * (dg a i * val b) = val (a.take (i + 1)) * val b := by
    rw [val_take, Nat.add_mul, Nat.mul_assoc]
  rw [hv] at h4
  have hvs : val (o.set (i + b.length) (dg o (i + b.length) + c)) = val (a.take (i + 1)) * val b := by rw [Nat.mul_add] at hs; omega
  have hd := dg_le o (i + b.length)
  have l1 := take_lt a (i + 1) ha
  have l2 := val_lt b hb
  have hlt : dg o (i + b.length) + c < 65536 := by
    apply Nat.lt_of_not_le; intro hc
    have m1 := Nat.mul_le_mul_left (65536 ^ (i + b.length)) hc
    rw [Nat.mul_add] at m1
    have m2 : val (a.take (i + 1)) * val b < 65536 ^ (i + 1) * 65536 ^ b.length := Nat.mul_lt_mul_of_lt_of_le l1 (Nat.le_of_lt l2) (Nat.pow_pos (by decide))
    have m3 : 65536 ^ (i + 1) * 65536 ^ b.length = 65536 ^ (i + b.length) * 65536 := by rw [← Nat.pow_add, ← Nat.pow_succ]; congr 1; omega
    omega
  exact ⟨⟨by simp [h1], h2.set _ _ hlt, hvs⟩, hlt⟩
theorem Prod.over {a b o : List Nat} {i : Nat} (h : Prod a b i o) (hi : i = a.length) : Digs o ∧ val o = val a * val b ∧ o.length = a.length + b.length := by
  obtain ⟨h1, h2, h3⟩ := h
  subst hi
  rw [val_full a _ (Nat.le_refl _)] at h3
  exact ⟨h2, h3, h1⟩
/-! ### a quotient, bit by bit -/
/-- the digits above place t are divided -/
def Out (a : List Nat) (vb t : Nat) (q r : List Nat) : Prop :=
  q.length = a.length ∧ Digs q ∧ Digs r ∧ val r < vb ∧ (∃ Q, Q * vb + val r = val (a.drop t) ∧ val q = 65536 ^ t * Q) ∧ (∀ j, j < t → dg q j = 0) ∧ r.length + 32 * t ≤ 32 * a.length
/-- of digit i the bits from m on are divided, too -/
def In (a : List Nat) (vb i m : Nat) (q r : List Nat) : Prop :=
  q.length = a.length ∧ Digs q ∧ Digs r ∧ val r < vb ∧ (∃ Q, Q * vb + val r = val (a.drop i) / 2 ^ m ∧ val q = 65536 ^ i * (2 ^ m * Q)) ∧ (∀ j, j < i → dg q j = 0) ∧ dg q i % 2 ^ m = 0 ∧ r.length + 32 * i + 2 * m ≤ 32 * a.length
theorem Out.start (a : List Nat) (vb : Nat) (h : 0 < vb) : Out a vb a.length (List.replicate a.length 0) [] := by
  refine ⟨by simp, Digs.rep _, Digs.nil, by simpa [val] using h, ⟨0, ?_, ?_⟩, fun j _ => ?_, ?_⟩
  · rw [List.drop_of_length_le (Nat.le_refl _)]; simp [val]
  · rw [val_rep]; simp
  · unfold dg; simp [List.getD_eq_getElem?_getD, List.getElem?_replicate]; split <;> rfl
  · simp
theorem Out.enter {a q r : List Nat} {vb i : Nat} (h : Out a vb (i + 1) q r) (ha : Digs a) : In a vb i 16 q r := by
  obtain ⟨h1, h2, h3, h4, ⟨Q, hQ, hq⟩, h6, h7⟩ := h
  refine ⟨h1, h2, h3, h4, ⟨Q, ?_, ?_⟩, fun j hj => h6 j (by omega), ?_, by omega⟩
  · have := ha.dg i
    rw [hQ, val_drop a i]; omega
  · rw [hq, Nat.pow_succ, Nat.mul_assoc]
  · rw [h6 i (by omega)]
theorem Out.skip {a q r : List Nat} {vb i : Nat} (h : Out a vb (i + 1) q r) (h0 : dg a i = 0) (hr : r.length = 0) : Out a vb i q r := by
  obtain ⟨h1, h2, h3, h4, ⟨Q, hQ, hq⟩, h6, h7⟩ := h
  have e : val r = 0 := by rw [List.eq_nil_of_length_eq_zero hr]; rfl
  refine ⟨h1, h2, h3, h4, ⟨65536 * Q, ?_, ?_⟩, fun j hj => h6 j (by omega), by omega⟩
  · rw [val_drop, h0, ← hQ, e, Nat.mul_assoc, Nat.zero_add, Nat.add_zero, Nat.add_zero]
  · rw [hq, Nat.pow_succ, Nat.mul_assoc]
theorem In.leave {a q r : List Nat} {vb i : Nat} (h : In a vb i 0 q r) : Out a vb i q r := by
  obtain ⟨h1, h2, h3, h4, ⟨Q, hQ, hq⟩, h6, _, h7⟩ := h
  exact ⟨h1, h2, h3, h4, ⟨Q, by simpa using hQ, by simpa using hq⟩, h6, by omega⟩
theorem two16 {m : Nat} (hm : m ≤ 16) : ∃ k, 65536 = 2 ^ m * 2 ^ k ∧ k + m = 16 := ⟨16 - m, by rw [← Nat.pow_add]; rw [show m + (16 - m) = 16 by omega], by omega⟩
theorem bit_of (a : List Nat) (i m : Nat) (hm : m ≤ 15) : val (a.drop i) / 2 ^ m = 2 * (val (a.drop i) / 2 ^ (m + 1)) + dg a i / 2 ^ m % 2 := by
  rw [val_drop]
  obtain ⟨k, hk, hkm⟩ := two16 (m := m + 1) (by omega)
  have e : dg a i + 65536 * val (a.drop (i + 1)) = dg a i + 2 ^ m * (2 * (2 ^ k * val (a.drop (i + 1)))) := by
    rw [hk, Nat.pow_succ]; simp only [Nat.mul_assoc]
  rw [e, Nat.add_mul_div_left _ _ (Nat.pow_pos (by decide)), Nat.pow_succ, ← Nat.div_div_eq_div_mul, Nat.add_mul_div_left _ _ (Nat.pow_pos (by decide))]
  omega
/-- the next bit; d: the quotient's bit -/
theorem In.next0 {a q r r' : List Nat} {vb i m : Nat} (h : In a vb i (m + 1) q r) (hm : m ≤ 15) (hg : Digs r') (hv : val r' = 2 * val r + dg a i / 2 ^ m % 2) (hlt : val r' < vb) (hl : r'.length ≤ r.length + 2) :
    In a vb i m q r' := by
  obtain ⟨h1, h2, h3, h4, ⟨Q, hQ, hq⟩, h6, h7, h8⟩ := h
  refine ⟨h1, h2, hg, hlt, ⟨2 * Q, ?_, ?_⟩, h6, ?_, by omega⟩
  · rw [bit_of a i m hm, ← hQ, hv, Nat.mul_assoc]; omega
  · rw [hq, Nat.pow_succ, Nat.mul_assoc]
  · have : 2 ^ m ∣ dg q i := Nat.dvd_trans (Nat.pow_dvd_pow 2 (Nat.le_succ m)) (Nat.dvd_of_mod_eq_zero h7)
    exact Nat.mod_eq_zero_of_dvd this
theorem In.room {a q r : List Nat} {vb i m : Nat} (h : In a vb i (m + 1) q r) (hm : m ≤ 15) : dg q i + 2 ^ m < 65536 := by
  obtain ⟨h1, h2, h3, h4, _, h6, h7, h8⟩ := h
  obtain ⟨k, hk, hkm⟩ := two16 (m := m + 1) (by omega)
  obtain ⟨t, ht⟩ := Nat.dvd_of_mod_eq_zero h7
  have hd := h2.dg i
  rw [ht, hk] at hd
  have ht' : t < 2 ^ k := Nat.lt_of_mul_lt_mul_left hd
  have := Nat.mul_le_mul_left (2 ^ (m + 1)) (show t + 1 ≤ 2 ^ k from ht')
  rw [← hk, Nat.mul_add, ← ht, Nat.mul_one, Nat.pow_succ] at this
  have := Nat.two_pow_pos m
  omega
theorem In.next1 {a q r r' : List Nat} {vb i m : Nat} (h : In a vb i (m + 1) q r) (hm : m ≤ 15) (hi : i < a.length) (hg : Digs r') (hv : val r' + vb = 2 * val r + dg a i / 2 ^ m % 2) (hl : r'.length ≤ r.length + 2) :
    In a vb i m (q.set i (dg q i + 2 ^ m)) r' := by
  have hroom := h.room hm
  obtain ⟨h1, h2, h3, h4, ⟨Q, hQ, hq⟩, h6, h7, h8⟩ := h
  refine ⟨by simp [h1], h2.set _ _ hroom, hg, by omega, ⟨2 * Q + 1, ?_, ?_⟩, fun j hj => ?_, ?_, by omega⟩
  · rw [bit_of a i m hm, ← hQ, Nat.add_mul, Nat.mul_assoc]; omega
  · have hs := val_set q i (dg q i + 2 ^ m) (by omega)
    rw [Nat.mul_add] at hs
    have e : val (q.set i (dg q i + 2 ^ m)) = val q + 65536 ^ i * 2 ^ m := by omega
    rw [e, hq, ← Nat.mul_add]
    congr 1
    rw [Nat.pow_succ, Nat.mul_assoc, Nat.mul_add, Nat.mul_one]
  · rw [dg_set_ne _ _ _ _ (by omega)]; exact h6 j hj
  · rw [dg_set_eq _ _ _ (by omega)]
    have : 2 ^ m ∣ dg q i := Nat.dvd_trans (Nat.pow_dvd_pow 2 (Nat.le_succ m)) (Nat.dvd_of_mod_eq_zero h7)
    exact Nat.mod_eq_zero_of_dvd (Nat.dvd_add this (Nat.dvd_refl _))
theorem Out.over {a q r : List Nat} {vb : Nat} (h : Out a vb 0 q r) : Digs q ∧ Digs r ∧ val q = val a / vb ∧ val r = val a % vb ∧ q.length = a.length ∧ r.length ≤ 32 * a.length := by
  obtain ⟨h1, h2, h3, h4, ⟨Q, hQ, hq⟩, _, h7⟩ := h
  simp at hQ hq
  have e1 : val a / vb = Q := by
    rw [← hQ, Nat.mul_comm, Nat.mul_add_div (by omega), Nat.div_eq_of_lt h4]; omega
  have e2 : val a % vb = val r := by
    rw [← hQ, Nat.mul_comm, Nat.mul_add_mod, Nat.mod_eq_of_lt h4]
  exact ⟨h2, h3, by omega, by omega, h1, by omega⟩
/-! ### bits -/
/-- n has k bits -/
def BL (n k : Nat) : Prop := n < 2 ^ k ∧ (0 < k → 2 ^ (k - 1) ≤ n)
theorem BL.uniq {n k k' : Nat} (h : BL n k) (h' : BL n k') : k = k' := by
  have key : ∀ {x y : Nat}, BL n x → BL n y → ¬ x < y := by
    intro x y hx hy hlt
    have h1 := hx.1
    have h2 := hy.2 (by omega)
    have h3 : 2 ^ x ≤ 2 ^ (y - 1) := Nat.pow_le_pow_right (by decide) (by omega)
    omega
  have a := key h h'
  have b := key h' h
  omega
theorem BL.zero : BL 0 0 := ⟨by decide, fun h => by omega⟩
/-- below bit m of digit i, and above it, all are 0 -/
def Hi (a : List Nat) (i m : Nat) : Prop := val (a.drop (i + 1)) = 0 ∧ dg a i < 2 ^ m
theorem Hi.found {a : List Nat} {i m : Nat} (h : Hi a i (m + 1)) (ha : Digs a) (hb : dg a i / 2 ^ m % 2 = 1) : BL (val a) (16 * i + m + 1) := by
  obtain ⟨h1, h2⟩ := h
  have l := take_lt a i ha
  have e : val a = val (a.take i) + 65536 ^ i * dg a i := by
    have e1 := val_take_mod a i ha
    have e2 := val_drop_div a i ha
    rw [val_drop, h1, Nat.mul_zero, Nat.add_zero] at e2
    rw [e1, e2, Nat.mod_add_div]
  have hp : 2 ^ m ≤ dg a i := by
    apply Nat.le_of_not_lt; intro hc
    rw [Nat.div_eq_of_lt hc] at hb
    cases hb
  have e2 : (65536 : Nat) ^ i = 2 ^ (16 * i) := by rw [Nat.pow_mul]
  rw [e2] at l e
  refine ⟨?_, fun _ => ?_⟩
  · have := Nat.mul_le_mul_left (2 ^ (16 * i)) (show dg a i + 1 ≤ 2 ^ (m + 1) from h2)
    rw [← Nat.pow_add, Nat.mul_add] at this
    rw [Nat.add_assoc]; omega
  · have := Nat.mul_le_mul_left (2 ^ (16 * i)) hp
    rw [← Nat.pow_add] at this
    show 2 ^ (16 * i + m) ≤ _
    omega
theorem Hi.on {a : List Nat} {i m : Nat} (h : Hi a i (m + 1)) (hb : ¬ dg a i / 2 ^ m % 2 = 1) : Hi a i m := by
  obtain ⟨h1, h2⟩ := h
  refine ⟨h1, ?_⟩
  have : dg a i / 2 ^ m < 2 := by rw [Nat.div_lt_iff_lt_mul (Nat.pow_pos (by decide)), Nat.mul_comm, ← Nat.pow_succ]; exact h2
  have h0 : dg a i / 2 ^ m = 0 := by
    generalize dg a i / 2 ^ m = z at *
    omega
  exact (Nat.div_eq_zero_iff_lt (Nat.pow_pos (by decide))).1 h0
theorem Hi.zero {a : List Nat} {i : Nat} (h : Hi a i 0) : val (a.drop i) = 0 := by
  rw [val_drop, h.1]
  have := h.2
  simp at this
  omega
theorem Hi.start {a : List Nat} {i : Nat} (h : val (a.drop (i + 1)) = 0) (ha : Digs a) : Hi a i 16 := ⟨h, ha.dg i⟩
end DigM

/- The document's own digits of layer 2: contracts over the translation. -/
namespace Go.Proofs.YtacicfmalhhceaaGreatDoor.DigW
open Go.RowKit
open DigM
theorem ret_bool {a b : Bool} (h : a = b) : Ending.returned (.bool a) = .returned (.bool b) := by rw [h]
theorem ret_int {k : IntKind} {a b : Int} (h : a = b) : Ending.returned (.int k a) = .returned (.int k b) := by rw [h]
theorem vint {k : IntKind} {a b : Int} (h : a = b) : Value.int k a = .int k b := by rw [h]
theorem infoU : (Tryz.prog.info? 22).map (fun i => (i.zero, i.size, i.bytes)) = some (some (.int .u64 0), 1, 8) := by kernel_rfl
/-- a slice that reads as digits -/
def Rd (w : World) (v : Value) (ds : List Nat) : Prop :=
  ∃ a cap, v = .slice a ds.length cap ∧ (ds.length ≤ cap ∧ cap ≤ 9223372036854775807) ∧ ∀ j, j < ds.length → ∃ g o, a = some ⟨g, o, none⟩ ∧ g < w.heap.size ∧ w.cell? ⟨g, o + j, none⟩ = some (.int .u64 (dg ds j : Nat))
/-- digits that a call made and owns, in new memory -/
def Own (B : Nat) (w : World) (v : Value) (ds : List Nat) : Prop := w.ownsRow B 22 1 v ds.length (ds.map (fun d => Value.int .u64 (d : Nat)))
theorem Own.rd {B : Nat} {w : World} {v : Value} {ds : List Nat} (h : Own B w v ds) : Rd w v ds := by
  have hc := fun g => World.ownsRow.cells h (g := g)
  have hlt := h.lt
  obtain ⟨_, ⟨rfl, hn⟩ | ⟨g, cap, cur, rfl, hB, _, hcp, hcm, _, _⟩⟩ := h
  · exact ⟨none, 0, by rw [hn], ⟨by omega, by omega⟩, fun j hj => by omega⟩
  · refine ⟨some ⟨g, 0, none⟩, cap, rfl, ⟨hcp, by unfold maxLen at hcm; omega⟩, fun j hj => ⟨g, 0, rfl, (hlt g rfl).2, ?_⟩⟩
    have := hc g rfl j (.int .u64 (ds[j] : Nat)) (by simp [hj])
    rw [dg_lt hj, Nat.zero_add]
    cases j with
    | zero => simpa [Addr.add] using this
    | succ j => simpa [Addr.add] using this
theorem Own.mono {B B' : Nat} {w : World} {v : Value} {ds : List Nat} (h : Own B' w v ds) (hB : B ≤ B') : Own B w v ds := by
  obtain ⟨h1, h2 | ⟨g, cap, cur, e, hg, h3⟩⟩ := h
  · exact ⟨h1, Or.inl h2⟩
  · exact ⟨h1, Or.inr ⟨g, cap, cur, e, by omega, h3⟩⟩
theorem Rd.later {w w' : World} {v : Value} {ds : List Nat} (h : Rd w v ds) {B : Nat} (hb : Below B w w') (hB : w.heap.size ≤ B) : Rd w' v ds := by
  obtain ⟨a, cap, rfl, hcap, hc⟩ := h
  refine ⟨a, cap, rfl, hcap, fun j hj => ?_⟩
  obtain ⟨g, o, e, hg, hcell⟩ := hc j hj
  exact ⟨g, o, e, by have := hb.size; omega, (hb.cell (p := ⟨g, o + j, none⟩) (by show g < B; omega)).trans hcell⟩
def Same (v : Value) (w : World) (e : Ending) (w' : World) : Prop := e = .returned v ∧ w = w'
theorem digit_any (v : Value) (ds : List Nat) (i : Nat) (w : World) (h : Rd w v ds) (_hl : ds.length ≤ 1099511627776) (hi : i ≤ 1099511627776) :
    Calls Tryz.prog 133 #[v, .int .i64 i] w (Same (.int .u64 (dg ds i : Nat)) w) := by
  obtain ⟨a, cap, rfl, hcap, hc⟩ := h
  by_cases hlt : i < ds.length
  · obtain ⟨g, o, rfl, hg, hcell⟩ := hc i hlt
    clear hc
    go_enter Tryz.func133, Tryz.ntmps133
    go_wp2
    go_ret
    exact ⟨rfl, rfl⟩
  · have hd := Lib.hid (dg_ge (ds := ds) (i := i) (by omega))
    clear hc
    go_enter Tryz.func133, Tryz.ntmps133
    go_wp2
    go_ret
    exact ⟨ret_int (by rw [hd.out]; rfl), rfl⟩
theorem digit_is (v : Value) (ds : List Nat) (i x : Nat) (w : World) (h : Rd w v ds) (hx : Hid (dg ds i = x)) (hl : ds.length ≤ 1099511627776) (hi : i ≤ 1099511627776) :
    Calls Tryz.prog 133 #[v, .int .i64 i] w (Same (.int .u64 (x : Nat)) w) := by
  obtain rfl := hx.out
  exact digit_any v ds i w h hl hi
theorem bq_no {a b : Int} (h : ¬ a = b) : (a == b) = false := beq_eq_false_iff_ne.2 h
theorem bq_yes {a b : Int} (h : a = b) : (a == b) = true := beq_iff_eq.2 h
theorem bn_yes {a b : Int} (h : ¬ a = b) : (a != b) = true := bne_iff_ne.2 h
theorem bn_no {a b : Int} (h : a = b) : (a != b) = false := by rw [h]; exact bne_self_eq_false b
set_option maxHeartbeats 400000 in
theorem word_any (v : Value) (ds : List Nat) (p : Nat) (w : World) (h : Rd w v ds) (hg : Digs ds) (hl : ds.length ≤ 1099511627776) (hp : p ≤ 1099511627776) :
    Calls Tryz.prog 104 #[v, .int .i64 p] w (Same (.int .u64 (wordAt ds p : Nat)) w) := by
  obtain ⟨a, cap, rfl, hcap, hc⟩ := h
  go_enter Tryz.func104, Tryz.ntmps104
  go_wp2
  go_loop [5, 6] (fun n i => ∃ m : Nat, m ≤ 4 ∧ i = .int .i64 ((m : Int) - 1) ∧ n = .int .u64 (val ((ds.drop (p + m)).take (4 - m)) : Nat)) (fun _ i => (intOf i + 1).toNat)
  case atStart => exact ⟨4, by omega, rfl, by simp [val]⟩
  case round =>
    obtain ⟨m, hm, rfl, rfl⟩ := hrel
    cases m with
    | zero =>
      go_wp2
      go_ret
      exact ⟨rfl, rfl⟩
    | succ j =>
      have ej : ((j + 1 : Nat) : Int) - 1 = j := by omega
      rw [ej]
      clear ej
      have hst := Lib.hid (word_step ds p j)
      have hb := take_lt (ds.drop (p + (j + 1))) (4 - (j + 1)) (hg.drop _)
      have hb2 : 65536 ^ (4 - (j + 1)) ≤ 281474976710656 := by
        have : 65536 ^ (4 - (j + 1)) ≤ 65536 ^ 3 := Nat.pow_le_pow_right (by decide) (by omega)
        simpa using this
      have hb3 : val ((ds.drop (p + (j + 1))).take (4 - (j + 1))) < 281474976710656 := by omega
      have hd := hg.dg (p + j)
      clear hb hb2
      rw [show 4 - (j + 1) + 1 = 4 - j by omega] at hst
      generalize val ((ds.drop (p + (j + 1))).take (4 - (j + 1))) = x at *
      by_cases hlt : p + j < ds.length
      · obtain ⟨g, o, rfl, hgs, hcell⟩ := hc (p + j) hlt
        go_wp2
        go_round
        case rel => exact ⟨j, by omega, by go_num, vint (by rw [hst.out]; omega)⟩
        case measure => simp [intOf]
      · have hd := Lib.hid (dg_ge (ds := ds) (i := p + j) (by omega))
        go_wp2
        go_round
        case rel => exact ⟨j, by omega, by go_num, vint (by rw [hst.out, hd.out]; omega)⟩
        case measure => simp [intOf]
theorem word_is (v : Value) (ds : List Nat) (p x : Nat) (w : World) (h : Rd w v ds) (hg : Digs ds) (hx : Hid (wordAt ds p = x)) (hl : ds.length ≤ 1099511627776) (hp : p ≤ 1099511627776) :
    Calls Tryz.prog 104 #[v, .int .i64 p] w (Same (.int .u64 (x : Nat)) w) := by
  obtain rfl := hx.out
  exact word_any v ds p w h hg hl hp
end Go.Proofs.YtacicfmalhhceaaGreatDoor.DigW

/- The document's own Less, Digits, Plus, Minus and Trim of layer 2: contracts over the translation. -/
namespace Go.Proofs.YtacicfmalhhceaaGreatDoor.DigW
open Go.RowKit
open DigM
theorem val_drop_max (ds : List Nat) (n : Nat) (h : ds.length ≤ n) : val (ds.drop n) = 0 := by rw [List.drop_of_length_le h]; rfl
def lessB (a b : List Nat) : Bool := decide (val a < val b)
theorem lessB_at {a b : List Nat} (j x y : Nat) (ha : Digs a) (hb : Digs b) (hd : val (a.drop (j + 1)) = val (b.drop (j + 1))) (hx : dg a j = x) (hy : dg b j = y) (hn : x ≠ y) : lessB a b = decide (x < y) := by
  unfold lessB
  subst hx hy
  exact decide_eq_decide.2 (by rw [less_at a b j ha hb hd hn])
theorem lessB_same {a b : List Nat} (h : val (a.drop 0) = val (b.drop 0)) : lessB a b = false := by
  unfold lessB; simp at h; simp [h]
theorem drop_same {a b : List Nat} {j : Nat} (hd : val (a.drop (j + 1)) = val (b.drop (j + 1))) (he : dg a j = dg b j) : val (a.drop j) = val (b.drop j) := by
  rw [val_drop a, val_drop b, hd, he]
set_option maxHeartbeats 800000 in
theorem less_any (v u : Value) (a b : List Nat) (w : World) (hv : Rd w v a) (hu : Rd w u b) (ha : Digs a) (hb : Digs b) (hla : a.length ≤ 1099511627775) (hlb : b.length ≤ 1099511627775) :
    Calls Tryz.prog 102 #[v, u] w (Same (.bool (lessB a b)) w) := by
  have RV := hv
  have RU := hu
  obtain ⟨av, capv, rfl, _, _⟩ := hv
  obtain ⟨au, capu, rfl, _, _⟩ := hu
  have H : ∀ n : Nat, n = max a.length b.length → Hid (val (a.drop n) = val (b.drop n)) := fun n hn => Lib.hid (by rw [val_drop_max a n (by omega), val_drop_max b n (by omega)])
  by_cases hm : a.length < b.length
  · have H1 := H b.length (by omega)
    clear H
    go_enter Tryz.func102, Tryz.ntmps102
    go_wp2_with (fail)
    go_loop [6] (fun i => ∃ m : Nat, m ≤ b.length ∧ i = .int .i64 ((m : Int) - 1) ∧ Hid (val (a.drop m) = val (b.drop m))) (fun i => (intOf i + 1).toNat)
    case atStart => exact ⟨b.length, Nat.le_refl _, rfl, H1⟩
    case round =>
      obtain ⟨m, hm1, rfl, hE⟩ := hrel
      cases m with
      | zero =>
        have hr := Lib.hid (lessB_same hE.out)
        go_wp2_with (fail)
        go_ret
        exact ⟨ret_bool (by rw [hr.out]), rfl⟩
      | succ j =>
        have ej : ((j + 1 : Nat) : Int) - 1 = j := by omega
        rw [ej]
        clear ej
        obtain ⟨x, hx⟩ : ∃ x, Hid (dg a j = x) := ⟨_, Lib.hid rfl⟩
        obtain ⟨y, hy⟩ : ∃ y, Hid (dg b j = y) := ⟨_, Lib.hid rfl⟩
        by_cases he : x = y
        · subst he
          have HS := Lib.hid (drop_same hE.out (hx.out.trans hy.out.symm))
          go_wp2_with (fail)
          refine (digit_is _ a j x _ RV hx (by omega) (by omega)).mono ?_
          rintro e w' ⟨rfl, rfl⟩
          go_wp2_with (fail)
          refine (digit_is _ b j x _ RU hy (by omega) (by omega)).mono ?_
          rintro e w' ⟨rfl, rfl⟩
          go_wp2_with (fail)
          go_round
          case rel => exact ⟨j, by omega, by go_num, HS⟩
          case measure => simp [intOf]
        · have hr := Lib.hid (lessB_at j x y ha hb hE.out hx.out hy.out he)
          have hq := bn_yes (show ¬ (x : Int) = (y : Int) from by omega)
          clear he
          go_wp2_with (fail)
          refine (digit_is _ a j x _ RV hx (by omega) (by omega)).mono ?_
          rintro e w' ⟨rfl, rfl⟩
          go_wp2_with (fail)
          refine (digit_is _ b j y _ RU hy (by omega) (by omega)).mono ?_
          rintro e w' ⟨rfl, rfl⟩
          go_wp2_with (fail)
          refine (digit_is _ a j x _ RV hx (by omega) (by omega)).mono ?_
          rintro e w' ⟨rfl, rfl⟩
          go_wp2_with (fail)
          refine (digit_is _ b j y _ RU hy (by omega) (by omega)).mono ?_
          rintro e w' ⟨rfl, rfl⟩
          go_wp2_with (fail)
          go_ret
          exact ⟨ret_bool (by rw [hr.out]), rfl⟩
  · have H1 := H a.length (by omega)
    clear H
    go_enter Tryz.func102, Tryz.ntmps102
    go_wp2_with (fail)
    go_loop [6] (fun i => ∃ m : Nat, m ≤ a.length ∧ i = .int .i64 ((m : Int) - 1) ∧ Hid (val (a.drop m) = val (b.drop m))) (fun i => (intOf i + 1).toNat)
    case atStart => exact ⟨a.length, Nat.le_refl _, rfl, H1⟩
    case round =>
      obtain ⟨m, hm1, rfl, hE⟩ := hrel
      cases m with
      | zero =>
        have hr := Lib.hid (lessB_same hE.out)
        go_wp2_with (fail)
        go_ret
        exact ⟨ret_bool (by rw [hr.out]), rfl⟩
      | succ j =>
        have ej : ((j + 1 : Nat) : Int) - 1 = j := by omega
        rw [ej]
        clear ej
        obtain ⟨x, hx⟩ : ∃ x, Hid (dg a j = x) := ⟨_, Lib.hid rfl⟩
        obtain ⟨y, hy⟩ : ∃ y, Hid (dg b j = y) := ⟨_, Lib.hid rfl⟩
        by_cases he : x = y
        · subst he
          have HS := Lib.hid (drop_same hE.out (hx.out.trans hy.out.symm))
          go_wp2_with (fail)
          refine (digit_is _ a j x _ RV hx (by omega) (by omega)).mono ?_
          rintro e w' ⟨rfl, rfl⟩
          go_wp2_with (fail)
          refine (digit_is _ b j x _ RU hy (by omega) (by omega)).mono ?_
          rintro e w' ⟨rfl, rfl⟩
          go_wp2_with (fail)
          go_round
          case rel => exact ⟨j, by omega, by go_num, HS⟩
          case measure => simp [intOf]
        · have hr := Lib.hid (lessB_at j x y ha hb hE.out hx.out hy.out he)
          have hq := bn_yes (show ¬ (x : Int) = (y : Int) from by omega)
          clear he
          go_wp2_with (fail)
          refine (digit_is _ a j x _ RV hx (by omega) (by omega)).mono ?_
          rintro e w' ⟨rfl, rfl⟩
          go_wp2_with (fail)
          refine (digit_is _ b j y _ RU hy (by omega) (by omega)).mono ?_
          rintro e w' ⟨rfl, rfl⟩
          go_wp2_with (fail)
          refine (digit_is _ a j x _ RV hx (by omega) (by omega)).mono ?_
          rintro e w' ⟨rfl, rfl⟩
          go_wp2_with (fail)
          refine (digit_is _ b j y _ RU hy (by omega) (by omega)).mono ?_
          rintro e w' ⟨rfl, rfl⟩
          go_wp2_with (fail)
          go_ret
          exact ⟨ret_bool (by rw [hr.out]), rfl⟩
/-- a call that gives digits in new memory -/
def Gives (P : List Nat → Prop) (w : World) (e : Ending) (w' : World) : Prop := ∃ v ds, e = .returned v ∧ P ds ∧ Own w.heap.size w' v ds ∧ Below w.heap.size w w'
theorem ownsU (w : World) (ds : List Nat) (h : ds.length ≤ 1099511627776) : Own w.heap.size (w.alloc (.cells (ds.map (fun d => Value.int .u64 (d : Nat))).toArray 22)) (.slice (some ⟨w.heap.size, 0, none⟩) ds.length ds.length) ds := by
  refine ⟨by simp, .inr ⟨w.heap.size, ds.length, _, rfl, Nat.le_refl _, heap_alloc_new w _, Nat.le_refl _, by unfold maxLen; omega, by simp, by simp only [Nat.mul_one]; exact List.take_of_length_le (by simp)⟩⟩
theorem digits_any (a : Nat) (w : World) (ha : a < 18446744073709551616) :
    Calls Tryz.prog 99 #[.int .u64 a] w (Gives (· = digits a) w) := by
  have HO := Lib.hid (ownsU w (digits a) (by simp [digits]))
  have ha' : (a : Int) ≤ 18446744073709551615 := by omega
  clear ha
  go_enter Tryz.func99, Tryz.ntmps99
  go_wp2_with (fail)
  go_ret
  exact ⟨_, digits a, rfl, rfl, HO.out, (Below.refl _ _).alloc (Nat.le_refl _) _⟩
theorem Own.snoc {B : Nat} {w : World} {v : Value} {ds : List Nat} {d : Nat} {x : Int} (h : w.ownsRow B 22 1 v (ds.length + 1) (ds.map (fun d => Value.int .u64 (d : Nat)) ++ [.int .u64 x])) (e : x = (d : Int)) : Own B w v (ds ++ [d]) := by
  unfold Own; rw [List.length_append, List.map_append]
  subst e
  exact h
def PRel (a b : List Nat) (w : World) (v c i : Value) (wr : World) : Prop :=
  ∃ (k cn : Nat) (o : List Nat), i = .int .i64 k ∧ c = .int .u64 cn ∧ Own w.heap.size wr v o ∧ Below w.heap.size w wr ∧ Hid (Sum a b k o cn)
def PlusP (a b ds : List Nat) : Prop := Digs ds ∧ val ds = val a + val b ∧ ds.length ≤ max a.length b.length + 1
set_option maxHeartbeats 1600000 in
theorem plus_any (v u : Value) (a b : List Nat) (w : World) (hv : Rd w v a) (hu : Rd w u b) (ha : Digs a) (hb : Digs b) (hla : a.length ≤ 1099511627770) (hlb : b.length ≤ 1099511627770) :
    Calls Tryz.prog 101 #[v, u] w (Gives (PlusP a b) w) := by
  have RV := hv
  have RU := hu
  obtain ⟨av, capv, rfl, _, _⟩ := hv
  obtain ⟨au, capu, rfl, _, _⟩ := hu
  obtain ⟨i0, hi, hz0, hz1, hz2⟩ := info_parts infoU
  go_enter Tryz.func101, Tryz.ntmps101
  go_wp2_with (fail)
  go_loopw [5, 6, 7] (PRel a b w) (fun _ _ i _ => max a.length b.length + 1 - (intOf i).toNat)
  case atStart => exact ⟨0, 0, [], rfl, rfl, World.ownsRow_made _ _ _ (Nat.le_refl _) (by decide) rfl, (Below.refl _ _).alloc (Nat.le_refl _) _, Lib.hid (Sum.start a b)⟩
  case round =>
    obtain ⟨k, cn, o, rfl, rfl, hown, hnx, hS⟩ := hrel
    have hk1 : k ≤ max a.length b.length + 1 := hS.out.2.2.2.2.1
    have hlen : o.length ≤ k := by rw [hS.out.1]; exact Nat.le_refl _
    have hcn : cn ≤ 1 := hS.out.2.2.1
    have RV' := RV.later hnx (Nat.le_refl _)
    have RU' := RU.later hnx (Nat.le_refl _)
    obtain ⟨x, hx⟩ : ∃ x, Hid (dg a k = x) := ⟨_, Lib.hid rfl⟩
    obtain ⟨y, hy⟩ : ∃ y, Hid (dg b k = y) := ⟨_, Lib.hid rfl⟩
    have hxb : x < 65536 := by rw [← hx.out]; exact ha.dg k
    have hyb : y < 65536 := by rw [← hy.out]; exact hb.dg k
    by_cases h1 : k < a.length
    · have hkm : k ≤ max a.length b.length := by
        apply Nat.le_of_not_lt; intro hc
        have := hS.out.2.2.2.2.2 hc
        omega
      have HN := Lib.hid (hS.out.next ha hb (by omega)).1
      rw [hx.out, hy.out] at HN
      go_wp2_with (fail)
      refine (digit_is _ a k x _ RV' hx (by omega) (by omega)).mono ?_
      rintro e w' ⟨rfl, rfl⟩
      go_wp2_with (fail)
      refine (digit_is _ b k y _ RU' hy (by omega) (by omega)).mono ?_
      rintro e w' ⟨rfl, rfl⟩
      go_wp2_with (first
        | (at_builtin; refine wpList_append_own _ rfl _ _ 92 rfl w.heap.size 22 i0 (.int .u64 0) 1 8 Tryz.underlying92 hi hz0 hz1 hz2 rfl (by decide) _ _ _ rfl (World.ownsRow.alloc hown _) ⟨wr.heap.size, 0, none⟩ 1 1 [.int .u64 ((((x + y + cn) % 65536 : Nat) : Int))] rfl rfl ?c1 ?c2 ?c3 ?c4 ?c5 ?_))
      case c1 =>
        intro j u hj
        match j, hj with
        | 0, hj => simp at hj; subst hj; simp [Addr.add]
      case c2 => intro u hu; simp at hu; subst hu; rfl
      case c3 => unfold maxLen; omega
      case c4 => omega
      case c5 => have := hnx.size; simp; omega
      intro v' w1 hown' hgrow _
      have hnx' : Below w.heap.size w w1 := Below.grown (hnx.alloc hnx.size _) hgrow (by have := hnx.size; simp; omega) (fun j hj => (hown.lt j hj).1)
      clear hgrow
      have HO := Lib.hid (Own.snoc hown' rfl)
      clear hown'
      go_wp2_with (fail)
      go_roundw
      case rel => exact ⟨k + 1, (x + y + cn) / 65536, _, by go_num, vint (by omega), HO.out, hnx', HN⟩
      case measure => simp [intOf]; omega
    · by_cases h2 : k < b.length
      · have hkm : k ≤ max a.length b.length := by
          apply Nat.le_of_not_lt; intro hc
          have := hS.out.2.2.2.2.2 hc
          omega
        have HN := Lib.hid (hS.out.next ha hb (by omega)).1
        rw [hx.out, hy.out] at HN
        go_wp2_with (fail)
        refine (digit_is _ a k x _ RV' hx (by omega) (by omega)).mono ?_
        rintro e w' ⟨rfl, rfl⟩
        go_wp2_with (fail)
        refine (digit_is _ b k y _ RU' hy (by omega) (by omega)).mono ?_
        rintro e w' ⟨rfl, rfl⟩
        go_wp2_with (first
          | (at_builtin; refine wpList_append_own _ rfl _ _ 92 rfl w.heap.size 22 i0 (.int .u64 0) 1 8 Tryz.underlying92 hi hz0 hz1 hz2 rfl (by decide) _ _ _ rfl (World.ownsRow.alloc hown _) ⟨wr.heap.size, 0, none⟩ 1 1 [.int .u64 ((((x + y + cn) % 65536 : Nat) : Int))] rfl rfl ?c1 ?c2 ?c3 ?c4 ?c5 ?_))
        case c1 =>
          intro j u hj
          match j, hj with
          | 0, hj => simp at hj; subst hj; simp [Addr.add]
        case c2 => intro u hu; simp at hu; subst hu; rfl
        case c3 => unfold maxLen; omega
        case c4 => omega
        case c5 => have := hnx.size; simp; omega
        intro v' w1 hown' hgrow _
        have hnx' : Below w.heap.size w w1 := Below.grown (hnx.alloc hnx.size _) hgrow (by have := hnx.size; simp; omega) (fun j hj => (hown.lt j hj).1)
        clear hgrow
        have HO := Lib.hid (Own.snoc hown' rfl)
        clear hown'
        go_wp2_with (fail)
        go_roundw
        case rel => exact ⟨k + 1, (x + y + cn) / 65536, _, by go_num, vint (by omega), HO.out, hnx', HN⟩
        case measure => simp [intOf]; omega
      · by_cases h3 : 0 < cn
        · have hkm : k ≤ max a.length b.length := by
            apply Nat.le_of_not_lt; intro hc
            have := hS.out.2.2.2.2.2 hc
            omega
          have HN := Lib.hid (hS.out.next ha hb (by omega)).1
          rw [hx.out, hy.out] at HN
          go_wp2_with (fail)
          refine (digit_is _ a k x _ RV' hx (by omega) (by omega)).mono ?_
          rintro e w' ⟨rfl, rfl⟩
          go_wp2_with (fail)
          refine (digit_is _ b k y _ RU' hy (by omega) (by omega)).mono ?_
          rintro e w' ⟨rfl, rfl⟩
          go_wp2_with (first
            | (at_builtin; refine wpList_append_own _ rfl _ _ 92 rfl w.heap.size 22 i0 (.int .u64 0) 1 8 Tryz.underlying92 hi hz0 hz1 hz2 rfl (by decide) _ _ _ rfl (World.ownsRow.alloc hown _) ⟨wr.heap.size, 0, none⟩ 1 1 [.int .u64 ((((x + y + cn) % 65536 : Nat) : Int))] rfl rfl ?c1 ?c2 ?c3 ?c4 ?c5 ?_))
          case c1 =>
            intro j u hj
            match j, hj with
            | 0, hj => simp at hj; subst hj; simp [Addr.add]
          case c2 => intro u hu; simp at hu; subst hu; rfl
          case c3 => unfold maxLen; omega
          case c4 => omega
          case c5 => have := hnx.size; simp; omega
          intro v' w1 hown' hgrow _
          have hnx' : Below w.heap.size w w1 := Below.grown (hnx.alloc hnx.size _) hgrow (by have := hnx.size; simp; omega) (fun j hj => (hown.lt j hj).1)
          clear hgrow
          have HO := Lib.hid (Own.snoc hown' rfl)
          clear hown'
          go_wp2_with (fail)
          go_roundw
          case rel => exact ⟨k + 1, (x + y + cn) / 65536, _, by go_num, vint (by omega), HO.out, hnx', HN⟩
          case measure => simp [intOf]; omega
        · have hend := hS.out.over (by omega)
          go_wp2_with (fail)
          go_ret
          exact ⟨_, o, rfl, hend, hown, hnx⟩
end Go.Proofs.YtacicfmalhhceaaGreatDoor.DigW

/- The document's own Minus, Trim and Len of layer 2: contracts over the translation. -/
namespace Go.Proofs.YtacicfmalhhceaaGreatDoor.DigW
open Go.RowKit
open DigM
theorem digit_q (v : Value) (ds : List Nat) (i x : Nat) (w : World) (n : Nat) (h : Rd w v ds) (hx : Hid (dg ds i = x)) (hl : ds.length ≤ 1099511627776) (hi : i ≤ 1099511627776) :
    Calls Tryz.prog 133 #[v, .int .i64 i] (w.drewN n) fun e w' => e = .returned (.int .u64 (x : Nat)) ∧ w' = w.drewN n :=
  (digit_is v ds i x (w.drewN n) (h.later (below_drewN (Below.refl _ _) n) (Nat.le_refl _)) hx hl hi).mono fun _ _ ⟨he, hw⟩ => ⟨he, hw.symm⟩
def MRel (a b : List Nat) (w : World) (v c i : Value) (wr : World) : Prop :=
  ∃ (k cn : Nat) (o : List Nat), i = .int .i64 k ∧ c = .int .u64 cn ∧ Own w.heap.size wr v o ∧ Below w.heap.size w wr ∧ k ≤ a.length ∧ Hid (Dif a b k o cn)
def MinusP (a b ds : List Nat) : Prop := Digs ds ∧ val ds = val a - val b ∧ ds.length = a.length
set_option maxHeartbeats 1600000 in
theorem minus_any (v u : Value) (a b : List Nat) (w : World) (hv : Rd w v a) (hu : Rd w u b) (ha : Digs a) (hb : Digs b) (hle : Hid (val b ≤ val a)) (hla : a.length ≤ 1099511627770) (hlb : b.length ≤ 1099511627770) :
    Calls Tryz.prog 103 #[v, u] w (Gives (MinusP a b) w) := by
  have RU := hu
  obtain ⟨av, capv, rfl, hcap, hcell⟩ := hv
  obtain ⟨i0, hi, hz0, hz1, hz2⟩ := info_parts infoU
  go_enter Tryz.func103, Tryz.ntmps103
  go_wp2_with (fail)
  go_loopw [5, 6, 7] (MRel a b w) (fun _ _ i _ => a.length - (intOf i).toNat)
  case atStart => exact ⟨0, 0, [], rfl, rfl, World.ownsRow_made _ _ _ (Nat.le_refl _) (by decide) rfl, (Below.refl _ _).alloc (Nat.le_refl _) _, Nat.zero_le _, Lib.hid (Dif.start a b)⟩
  case round =>
    obtain ⟨k, cn, o, rfl, rfl, hown, hnx, hka, hS⟩ := hrel
    have hlen : o.length ≤ k := by rw [hS.out.1]; exact Nat.le_refl _
    have hcn : cn ≤ 1 := hS.out.2.2.1
    by_cases h1 : k < a.length
    · obtain ⟨g, off, rfl, hg, hc⟩ := hcell k h1
      clear hcell
      have RU' := RU.later hnx (Nat.le_refl _)
      have hc' : wr.cell? ⟨g, off + k, none⟩ = some (.int .u64 (dg a k : Nat)) := (hnx.cell (p := ⟨g, off + k, none⟩) hg).trans hc
      clear hc
      obtain ⟨x, hx⟩ : ∃ x, Hid (dg a k = x) := ⟨_, Lib.hid rfl⟩
      obtain ⟨y, hy⟩ : ∃ y, Hid (dg b k = y) := ⟨_, Lib.hid rfl⟩
      have hxb : x < 65536 := by rw [← hx.out]; exact ha.dg k
      have hyb : y < 65536 := by rw [← hy.out]; exact hb.dg k
      have HN := Lib.hid (hS.out.next ha hb).1
      rw [hx.out, hy.out] at HN
      rw [hx.out] at hc'
      go_wp2_with (fail)
      go_quiet ((go_at_call 133; exact Calls.quiet_of_same (digit_q _ b k y _ _ RU' hy (by omega) (by omega))))
      have hown2 : Own w.heap.size (wr.drewN nq) u5 o := hown
      have hnx2 := below_drewN hnx nq
      clear hown hnx RU' hc'
      generalize wr.drewN nq = wd at *
      go_wp2_with (first
        | (at_builtin; refine wpList_append_own _ rfl _ _ 92 rfl w.heap.size 22 i0 (.int .u64 0) 1 8 Tryz.underlying92 hi hz0 hz1 hz2 rfl (by decide) _ _ _ rfl (World.ownsRow.alloc hown2 _) ⟨wd.heap.size, 0, none⟩ 1 1 [.int .u64 ((65536 + (x : Int) - y - cn) % 65536)] rfl rfl ?c1 ?c2 ?c3 ?c4 ?c5 ?_))
      case c1 =>
        intro j u hj
        match j, hj with
        | 0, hj => simp at hj; subst hj; simp [Addr.add]
      case c2 => intro u hu; simp at hu; subst hu; rfl
      case c3 => unfold maxLen; omega
      case c4 => omega
      case c5 => have := hnx2.size; simp; omega
      intro v' w1 hown' hgrow _
      have hnx' : Below w.heap.size w w1 := Below.grown (hnx2.alloc hnx2.size _) hgrow (by have := hnx2.size; simp; omega) (fun j hj => (hown2.lt j hj).1)
      clear hgrow
      have HO := Lib.hid (Own.snoc (d := (65536 + x - y - cn) % 65536) hown' (by omega))
      clear hown'
      go_wp2_with (fail)
      go_roundw
      case rel => exact ⟨k + 1, 1 - (65536 + x - y - cn) / 65536, _, by go_num, vint (by omega), HO.out, hnx', by omega, HN⟩
      case measure => simp [intOf]; omega
    · have hend := hS.out.over (by omega) ha hb hle.out
      go_wp2_with (fail)
      go_ret
      exact ⟨_, o, rfl, hend, hown, hnx⟩
/-- a slice that is another one's first part -/
def Trims (a : Option Addr) (cap : Nat) (ds : List Nat) (w : World) (e : Ending) (w' : World) : Prop := ∃ n m, e = .returned (.slice a n cap) ∧ n ≤ ds.length ∧ val (ds.take n) = val ds ∧ w' = w.drewN m
theorem trim_step {ds : List Nat} {n : Nat} (h : val (ds.take (n + 1)) = val ds) (h0 : dg ds n = 0) : val (ds.take n) = val ds := by
  rw [← h, val_take, h0]; simp
theorem Rd.take {w : World} {a : Option Addr} {cap n : Nat} {ds : List Nat} (h : ∀ j, j < ds.length → ∃ g o, a = some ⟨g, o, none⟩ ∧ g < w.heap.size ∧ w.cell? ⟨g, o + j, none⟩ = some (.int .u64 (dg ds j : Nat))) (hn : n ≤ ds.length) (hcap : ds.length ≤ cap ∧ cap ≤ 9223372036854775807) :
    Rd w (.slice a n cap) (ds.take n) := by
  have hl : (ds.take n).length = n := by rw [List.length_take]; omega
  refine ⟨a, cap, by rw [hl], ⟨by omega, hcap.2⟩, fun j hj => ?_⟩
  rw [hl] at hj
  obtain ⟨g, o, e, hg, hc⟩ := h j (by omega)
  refine ⟨g, o, e, hg, ?_⟩
  rw [hc]
  rw [dg_lt (by omega), dg_lt (by omega)]; simp
set_option maxHeartbeats 800000 in
theorem trim_any (a : Option Addr) (cap : Nat) (ds : List Nat) (w : World) (hcap : ds.length ≤ cap ∧ cap ≤ 9223372036854775807) (hcell : ∀ j, j < ds.length → ∃ g o, a = some ⟨g, o, none⟩ ∧ g < w.heap.size ∧ w.cell? ⟨g, o + j, none⟩ = some (.int .u64 (dg ds j : Nat))) (_hl : ds.length ≤ 1099511627770) :
    Calls Tryz.prog 100 #[.slice a ds.length cap] w (Trims a cap ds w) := by
  obtain ⟨hc1, hc2⟩ := hcap
  go_enter Tryz.func100, Tryz.ntmps100
  go_wp2_with (fail)
  go_loopw [3] (fun i wr => ∃ n m : Nat, i = .int .i64 n ∧ n ≤ ds.length ∧ wr = w.drewN m ∧ Hid (val (ds.take n) = val ds)) (fun i _ => (intOf i).toNat)
  case atStart => exact ⟨ds.length, 0, rfl, Nat.le_refl _, rfl, Lib.hid (by rw [List.take_length])⟩
  case round =>
    obtain ⟨n, m, rfl, hn, rfl, hE⟩ := hrel
    cases n with
    | zero =>
      go_wp2_with (fail)
      go_ret
      exact ⟨0, m, rfl, Nat.zero_le _, hE.out, rfl⟩
    | succ j =>
      have ej : ((j + 1 : Nat) : Int) - 1 = j := by omega
      obtain ⟨g, off, rfl, hg, hc⟩ := hcell j (by omega)
      obtain ⟨x, hx⟩ : ∃ x, Hid (dg ds j = x) := ⟨_, Lib.hid rfl⟩
      rw [hx.out] at hc
      by_cases h0 : x = 0
      · subst h0
        have HT := Lib.hid (trim_step hE.out hx.out)
        go_wp2_with (fail)
        go_roundw
        case rel => exact ⟨j, m, by go_num, by omega, rfl, HT⟩
        case measure => simp [intOf]
      · have hq := bq_no (show ¬ (x : Int) = 0 from by omega)
        go_wp2_with (fail)
        go_ret
        exact ⟨j + 1, m, rfl, hn, hE.out, rfl⟩
theorem shr_bit (x b : Nat) : ((x : Int) / 2 ^ b).tmod 2 = ((x / 2 ^ b % 2 : Nat) : Int) := by
  have e : (x : Int) / 2 ^ b = ((x / 2 ^ b : Nat) : Int) := by rw [Int.natCast_ediv, Int.natCast_pow]; rfl
  rw [e]; rfl
/-- how many bits -/
def Bits (ds : List Nat) (w : World) (e : Ending) (w' : World) : Prop := ∃ k : Nat, e = .returned (.int .i64 k) ∧ BL (val ds) k ∧ k ≤ 16 * ds.length ∧ ∃ m, w' = w.drewN m
set_option maxHeartbeats 1600000 in
theorem len_any (v : Value) (ds : List Nat) (w : World) (hv : Rd w v ds) (hg : Digs ds) (hl : ds.length ≤ 1099511627770) :
    Calls Tryz.prog 67 #[v] w (Bits ds w) := by
  obtain ⟨a, cap, rfl, hcap, hcell⟩ := hv
  go_enter Tryz.func67, Tryz.ntmps67
  go_wp2_with (fail)
  go_loopw [3] (fun i wr => ∃ n m : Nat, i = .int .i64 ((n : Int) - 1) ∧ n ≤ ds.length ∧ wr = w.drewN m ∧ Hid (val (ds.drop n) = 0)) (fun i _ => (intOf i + 1).toNat)
  case atStart => exact ⟨ds.length, 0, rfl, Nat.le_refl _, rfl, Lib.hid (by rw [List.drop_length]; rfl)⟩
  case round =>
    obtain ⟨n, m, rfl, hn, rfl, hE⟩ := hrel
    cases n with
    | zero =>
      go_wp2_with (fail)
      go_ret
      exact ⟨0, rfl, by have := hE.out; simp at this; rw [this]; exact BL.zero, by omega, m, rfl⟩
    | succ j =>
      have ej : ((j + 1 : Nat) : Int) - 1 = j := by omega
      rw [ej]
      clear ej
      obtain ⟨g, off, rfl, hg', hc⟩ := hcell j (by omega)
      obtain ⟨x, hx⟩ : ∃ x, Hid (dg ds j = x) := ⟨_, Lib.hid rfl⟩
      rw [hx.out] at hc
      have hxb : x < 65536 := by rw [← hx.out]; exact hg.dg j
      have HH := Lib.hid (Hi.start hE.out hg)
      clear hcell
      go_wp2_with (fail)
      obtain ⟨wo, hwo⟩ : ∃ wo : World, Hid (wo = w.drewN m) := ⟨_, Lib.hid rfl⟩
      have hc' : wo.cell? ⟨g, off + j, none⟩ = some (.int .u64 x) := by rw [hwo.out]; exact hc
      rw [← hwo.out]
      go_loopw [4] (fun i wr => ∃ t m' : Nat, i = .int .i64 ((t : Int) - 1) ∧ t ≤ 16 ∧ wr = wo.drewN m' ∧ Hid (Hi ds j t)) (fun i _ => (intOf i + 1).toNat)
      case atStart => exact ⟨16, 0, rfl, Nat.le_refl _, rfl, HH⟩
      case round =>
        clear HH
        obtain ⟨t, m', rfl, ht, rfl, HI⟩ := hrel
        cases t with
        | zero =>
          have HZ := Lib.hid HI.out.zero
          go_wp2_with (fail)
          go_roundw
          case rel => exact ⟨j, m + m', by go_num, by omega, by rw [hwo.out]; simp, HZ⟩
          case measure => simp [intOf]
        | succ b =>
          have eb : ((b + 1 : Nat) : Int) - 1 = b := by omega
          rw [eb]
          clear eb
          have hbit := shr_bit x b
          by_cases h1 : x / 2 ^ b % 2 = 1
          · have hq := bq_yes (show ((x : Int) / 2 ^ b).tmod 2 = 1 from by rw [hbit, h1]; rfl)
            have HB := Lib.hid (HI.out.found hg (by rw [hx.out]; exact h1))
            clear h1 hbit
            go_wp2_with (fail)
            go_ret
            exact ⟨16 * j + b + 1, rfl, HB.out, by omega, m + m', by rw [hwo.out]; simp⟩
          · have hq := bq_no (show ¬ ((x : Int) / 2 ^ b).tmod 2 = 1 from by rw [hbit]; omega)
            have HB := Lib.hid (HI.out.on (by rw [hx.out]; exact h1))
            clear h1 hbit
            go_wp2_with (fail)
            go_roundw
            case rel => exact ⟨b, m', by go_num, by omega, rfl, HB⟩
            case measure => simp [intOf]
end Go.Proofs.YtacicfmalhhceaaGreatDoor.DigW

/- The document's own Times of layer 2: a contract over the translation. -/
namespace Go.Proofs.YtacicfmalhhceaaGreatDoor.DigW
open Go.RowKit
open DigM
def uv (d : Nat) : Value := .int .u64 (d : Nat)
/-- the digits of block g, new since B -/
def At (B : Nat) (w : World) (g n : Nat) (o : List Nat) : Prop := w.ownsRow B 22 1 (.slice (some ⟨g, 0, none⟩) n n) n (o.map (fun d => Value.int .u64 (d : Nat)))
theorem At.cell {B : Nat} {w : World} {g n : Nat} {o : List Nat} (h : At B w g n o) (j : Nat) (hj : j < n) (hl : o.length = n) : w.cell? ⟨g, j, none⟩ = some (.int .u64 (dg o j : Nat)) := by
  have := World.ownsRow.cellAt h j (by omega)
  rw [this, List.getElem?_map, dg_lt (by omega), List.getElem?_eq_getElem (by omega)]; rfl
theorem At.free {B : Nat} {w : World} {g n : Nat} {o : List Nat} (h : At B w g n o) (j : Nat) : w.frozen? ⟨g, j, none⟩ = false := World.ownsRow.frozenAt h j
theorem At.store {B : Nat} {w : World} {g n : Nat} {o : List Nat} (h : At B w g n o) (j d : Nat) : At B (w.setCell ⟨g, j, none⟩ (.int .u64 (d : Nat))) g n (o.set j d) := by
  unfold At
  rw [List.map_set]
  exact (World.ownsRow.stored h j _).1
theorem At.own {B : Nat} {w : World} {g n : Nat} {o : List Nat} (h : At B w g n o) (hl : o.length = n) : Own B w (.slice (some ⟨g, 0, none⟩) n n) o := by
  unfold Own; rw [hl]; exact h
theorem At.grown {B : Nat} {w : World} {g n : Nat} {o : List Nat} (h : At B w g n o) (j d : Nat) {w0 : World} {B0 : Nat} (hb : Below B0 w0 w) (hB : B0 ≤ B) : Below B0 w0 (w.setCell ⟨g, j, none⟩ (.int .u64 (d : Nat))) :=
  Below.setCell hb (by have := (World.ownsRow.lt h g rfl).1; show B0 ≤ g; omega) _
def TRel (a b : List Nat) (w : World) (i : Value) (wr : World) : Prop :=
  ∃ (k : Nat) (o : List Nat), i = .int .i64 k ∧ k ≤ a.length ∧ At w.heap.size wr w.heap.size (a.length + b.length) o ∧ Below w.heap.size w wr ∧ Hid (Prod a b k o)
def TimesP (a b ds : List Nat) : Prop := Digs ds ∧ val ds = val a * val b ∧ ds.length = a.length + b.length
set_option maxHeartbeats 1600000 in
theorem times_any (v u : Value) (a b : List Nat) (w : World) (hv : Rd w v a) (hu : Rd w u b) (ha : Digs a) (hb : Digs b) (hla : a.length ≤ 1099511627770) (hlb : b.length ≤ 1099511627770) :
    Calls Tryz.prog 115 #[v, u] w (Gives (TimesP a b) w) := by
  obtain ⟨av, capv, rfl, _, hcv⟩ := hv
  obtain ⟨au, capu, rfl, _, hcu⟩ := hu
  obtain ⟨i0, hi, hz0, hz1, hz2⟩ := info_parts infoU
  have HV := Lib.hid hcv
  have HU := Lib.hid hcu
  clear hcv hcu
  go_enter Tryz.func115, Tryz.ntmps115
  go_wp2_with (at_make; refine wpList_make_full _ rfl _ _ 92 rfl w.heap.size 22 i0 (.int .u64 0) 1 Tryz.underlying92 hi hz0 hz1 _ _ _ _ (a.length + b.length) rfl rfl (by omega) (by omega) ?b2 ?b3 (Nat.le_refl _) ?_)
  case b2 => rw [hz2]; omega
  case b3 => unfold maxLen; omega
  intro w1 hown hgrow
  have hb1 : Below w.heap.size w w1 := Below.grown (Below.refl _ _) hgrow (Nat.le_refl _) (fun j hj => by cases hj)
  clear hgrow
  have hA : At w.heap.size w1 w.heap.size (a.length + b.length) (List.replicate (a.length + b.length) 0) := by
    unfold At
    rw [List.map_replicate]
    have e : (madeCells (Value.cells (.int .u64 0)) ((a.length + b.length) * 1)).toList = List.replicate (a.length + b.length) (Value.int .u64 ((0 : Nat) : Int)) := by
      rw [Nat.mul_one]; exact toList_madeCells_one _ _
    rw [← e, Nat.mul_one]; exact hown
  clear hown
  have hsz : w.heap.size < w1.heap.size := (World.ownsRow.lt hA w.heap.size rfl).2
  go_wp2_with (fail)
  go_loopw [6] (TRel a b w) (fun i _ => a.length - (intOf i).toNat)
  case atStart => exact ⟨0, _, rfl, Nat.zero_le _, hA, hb1, Lib.hid (Prod.start a b)⟩
  case round =>
    clear hA hb1
    obtain ⟨k, o, rfl, hk, hA, hnx, hP⟩ := hrel
    by_cases h1 : k < a.length
    · obtain ⟨ga, oa, rfl, hga, hca⟩ := HV.out k h1
      obtain ⟨x, hx⟩ : ∃ x, Hid (dg a k = x) := ⟨_, Lib.hid rfl⟩
      have hxb : x < 65536 := by rw [← hx.out]; exact ha.dg k
      rw [hx.out] at hca
      have hca' : wr.cell? ⟨ga, oa + k, none⟩ = some (.int .u64 x) := (hnx.cell (p := ⟨ga, oa + k, none⟩) hga).trans hca
      by_cases h0 : x = 0
      · subst h0
        have HN := Lib.hid (hP.out.skip hx.out)
        go_wp2_with (fail)
        go_roundw
        case rel => exact ⟨k + 1, o, by go_num, by omega, hA, hnx, HN⟩
        case measure => simp [intOf]; omega
      · have hq := bq_no (show ¬ (x : Int) = 0 from by omega)
        have HR := Lib.hid hP.out.row
        clear h0
        go_wp2_with (fail)
        obtain ⟨wo, hwo⟩ : ∃ wo : World, Hid (wo = wr) := ⟨_, Lib.hid rfl⟩
        rw [← hwo.out]
        go_loopw [7, 8, 9] (fun c i _ wr => ∃ (k' cn : Nat) (o : List Nat), i = .int .i64 k' ∧ c = .int .u64 cn ∧ k' ≤ b.length ∧ At w.heap.size wr w.heap.size (a.length + b.length) o ∧ Below w.heap.size w wr ∧ Hid (Row a b k k' o cn)) (fun _ i _ _ => b.length - (intOf i).toNat)
        case atStart => exact ⟨0, 0, o, rfl, rfl, Nat.zero_le _, by rw [hwo.out]; exact hA, by rw [hwo.out]; exact hnx, HR⟩
        case round =>
          clear HR hA hnx hca'
          rename_i wx
          obtain ⟨j, cn, o', rfl, rfl, hj, hA, hnx, hR⟩ := hrel
          have hol : o'.length = a.length + b.length := hR.out.1
          by_cases h2 : j < b.length
          · obtain ⟨gb, ob, rfl, hgb, hcb⟩ := HU.out j h2
            obtain ⟨hz1', _, _, hxy, hcn⟩ := hR.out.bound ha hb
            obtain ⟨y, hy⟩ : ∃ y, Hid (dg b j = y) := ⟨_, Lib.hid rfl⟩
            obtain ⟨z, hz⟩ : ∃ z, Hid (dg o' (k + j) = z) := ⟨_, Lib.hid rfl⟩
            rw [hz.out] at hz1'
            rw [hx.out, hy.out] at hxy
            have HN := Lib.hid (hR.out.next ha hb h1 h2)
            rw [hx.out, hy.out, hz.out] at HN
            have hca' : wr.cell? ⟨ga, oa + k, none⟩ = some (.int .u64 x) := (hnx.cell (p := ⟨ga, oa + k, none⟩) hga).trans hca
            rw [hy.out] at hcb
            have hcb' : wr.cell? ⟨gb, ob + j, none⟩ = some (.int .u64 y) := (hnx.cell (p := ⟨gb, ob + j, none⟩) hgb).trans hcb
            have hco := hA.cell (k + j) (by omega) hol
            rw [hz.out] at hco
            have hfz := hA.free (k + j)
            have hx1 : (x : Int) * y ≤ 4294836225 := by rw [← Int.natCast_mul]; omega
            have hx0 : 0 ≤ (x : Int) * y := by rw [← Int.natCast_mul]; omega
            clear hca hcb
            go_wp2_with (fail)
            go_quiet (fail)
            go_wp2_with (fail)
            have hAq : At w.heap.size (wr.drewN nq) w.heap.size (a.length + b.length) o' := hA
            have hnq := below_drewN hnx nq
            have ec : ((z : Int) + x * y + cn) % 65536 = (((z + x * y + cn) % 65536 : Nat) : Int) := by
              rw [Int.natCast_emod, Int.natCast_add, Int.natCast_add, Int.natCast_mul]; rfl
            have ed : ((z : Int) + x * y + cn) / 65536 = (((z + x * y + cn) / 65536 : Nat) : Int) := by
              rw [Int.natCast_ediv, Int.natCast_add, Int.natCast_add, Int.natCast_mul]; rfl
            go_roundw
            case rel =>
              rw [ec, ed]
              exact ⟨j + 1, _, _, by go_num, rfl, by omega, hAq.store (k + j) _, hAq.grown (k + j) _ hnq (Nat.le_refl _), HN⟩
            case measure => simp [intOf]; omega
          · have ej : j = b.length := by omega
            subst ej
            obtain ⟨z, hz⟩ : ∃ z, Hid (dg o' (k + b.length) = z) := ⟨_, Lib.hid rfl⟩
            have HN := Lib.hid (hR.out.over ha hb h1 rfl).1
            have hlt := (hR.out.over ha hb h1 rfl).2
            rw [hz.out] at HN hlt
            have hco := hA.cell (k + b.length) (by omega) hol
            rw [hz.out] at hco
            have hfz := hA.free (k + b.length)
            clear hca
            go_wp2_with (fail)
            have ec : (z : Int) + cn = ((z + cn : Nat) : Int) := (Int.natCast_add _ _).symm
            go_roundw
            case rel =>
              rw [ec]
              exact ⟨k + 1, _, by go_num, by omega, hA.store (k + b.length) _, hA.grown (k + b.length) _ hnx (Nat.le_refl _), HN⟩
            case measure => simp [intOf]; omega
    · have hend := hP.out.over (by omega)
      go_wp2_with (fail)
      go_ret
      exact ⟨_, o, rfl, hend, hA.own hP.out.1, hnx⟩
end Go.Proofs.YtacicfmalhhceaaGreatDoor.DigW

/- The document's own Over of layer 2: a contract over the translation. -/
namespace Go.Proofs.YtacicfmalhhceaaGreatDoor.DigW
open Go.RowKit
open DigM
/-- the rest: digits in new memory that is not block B -/
def Rst (B : Nat) (w : World) (v : Value) (ds : List Nat) : Prop :=
  ∃ a cap, v = .slice a ds.length cap ∧ (ds.length ≤ cap ∧ cap ≤ 9223372036854775807) ∧ ∀ j, j < ds.length → ∃ g o, a = some ⟨g, o, none⟩ ∧ (B < g ∧ g < w.heap.size) ∧ w.cell? ⟨g, o + j, none⟩ = some (.int .u64 (dg ds j : Nat))
theorem Rst.rd {B : Nat} {w : World} {v : Value} {ds : List Nat} (h : Rst B w v ds) : Rd w v ds := by
  obtain ⟨a, cap, e, hc, h⟩ := h
  exact ⟨a, cap, e, hc, fun j hj => by obtain ⟨g, o, e, hg, hc⟩ := h j hj; exact ⟨g, o, e, hg.2, hc⟩⟩
theorem Own.cells' {B : Nat} {w : World} {v : Value} {ds : List Nat} (h : Own B w v ds) : ∃ a cap, v = .slice a ds.length cap ∧ (ds.length ≤ cap ∧ cap ≤ 9223372036854775807) ∧ ∀ j, j < ds.length → ∃ g o, a = some ⟨g, o, none⟩ ∧ (B ≤ g ∧ g < w.heap.size) ∧ w.cell? ⟨g, o + j, none⟩ = some (.int .u64 (dg ds j : Nat)) := by
  obtain ⟨a, cap, e, hc, hr⟩ := h.rd
  refine ⟨a, cap, e, hc, fun j hj => ?_⟩
  obtain ⟨g, o, e', hg, hcell⟩ := hr j hj
  have := h.lt g (by rw [e, e']; rfl)
  exact ⟨g, o, e', ⟨this.1, this.2⟩, hcell⟩
theorem Own.rst {B B' : Nat} {w : World} {v : Value} {ds : List Nat} (h : Own B' w v ds) (hB : B < B') : Rst B w v ds := by
  obtain ⟨a, cap, e, hc, hr⟩ := h.cells'
  exact ⟨a, cap, e, hc, fun j hj => by obtain ⟨g, o, e', hg, hcell⟩ := hr j hj; exact ⟨g, o, e', ⟨by omega, hg.2⟩, hcell⟩⟩
theorem Rst.later {B : Nat} {w w' : World} {v : Value} {ds : List Nat} (h : Rst B w v ds) (hb : Below w.heap.size w w') : Rst B w' v ds := by
  obtain ⟨a, cap, e, hc, hr⟩ := h
  exact ⟨a, cap, e, hc, fun j hj => by
    obtain ⟨g, o, e', hg, hcell⟩ := hr j hj
    exact ⟨g, o, e', ⟨hg.1, by have := hb.size; omega⟩, (hb.cell (p := ⟨g, o + j, none⟩) hg.2).trans hcell⟩⟩
theorem Rst.store {B : Nat} {w : World} {v : Value} {ds : List Nat} (h : Rst B w v ds) (p : Nat) (x : Value) : Rst B (w.setCell ⟨B, p, none⟩ x) v ds := by
  obtain ⟨a, cap, e, hc, hr⟩ := h
  exact ⟨a, cap, e, hc, fun j hj => by
    obtain ⟨g, o, e', hg, hcell⟩ := hr j hj
    have hb : Below w.heap.size w w := Below.refl _ _
    refine ⟨g, o, e', ⟨hg.1, by rw [World.size_setCell]; exact hg.2⟩, ?_⟩
    rw [← hcell]
    exact World.cell?_setCell_other _ _ _ _ (by intro h; simp only [Addr.mk.injEq] at h; omega)⟩
theorem At.later {B : Nat} {w w' : World} {g n : Nat} {o : List Nat} (h : At B w g n o) (hb : Below w.heap.size w w') : At B w' g n o := by
  have hlt := (World.ownsRow.lt h g rfl).2
  obtain ⟨h1, ⟨h2, _⟩ | ⟨g', cap, cur, e, hB, hg, h3⟩⟩ := h
  · simp at h2
  · refine ⟨h1, .inr ⟨g', cap, cur, e, hB, ?_, h3⟩⟩
    simp only [Value.slice.injEq, Option.some.injEq, Addr.mk.injEq, and_true, true_and] at e
    obtain ⟨rfl, rfl⟩ := e
    rw [hb.block g hlt]; exact hg
theorem Own.later {B : Nat} {w w' : World} {v : Value} {ds : List Nat} (h : Own B w v ds) (hb : Below w.heap.size w w') : Own B w' v ds := by
  have hlt := h.lt
  obtain ⟨h1, h2 | ⟨g, cap, cur, e, hB, hg, h3⟩⟩ := h
  · exact ⟨h1, Or.inl h2⟩
  · refine ⟨h1, .inr ⟨g, cap, cur, e, hB, ?_, h3⟩⟩
    have := (hlt g (by rw [e]; rfl)).2
    rw [hb.block g this]; exact hg
/-- a row of digits, not empty, with its address -/
theorem Own.addr {B : Nat} {w : World} {v : Value} {ds : List Nat} (h : Own B w v ds) (hp : 0 < ds.length) : ∃ g o cap, v = .slice (some ⟨g, o, none⟩) ds.length cap ∧ ∀ (j : Nat) u, (ds.map (fun d => Value.int .u64 (d : Nat)))[j]? = some u → w.cell? ((⟨g, o, none⟩ : Addr).add j) = some u := by
  obtain ⟨a, cap, rfl, _, hc⟩ := h.cells'
  obtain ⟨g, o, rfl, _, _⟩ := hc 0 hp
  refine ⟨g, o, cap, rfl, fun j u hu => ?_⟩
  rw [List.getElem?_map] at hu
  by_cases hj : j < ds.length
  · rw [List.getElem?_eq_getElem hj] at hu
    simp only [Option.map_some, Option.some.injEq] at hu
    obtain ⟨g', o', e, _, hcell⟩ := hc j hj
    simp only [Option.some.injEq, Addr.mk.injEq, and_true] at e
    obtain ⟨rfl, rfl⟩ := e
    rw [dg_lt hj] at hcell
    rw [← hu, ← hcell]
    cases j <;> rfl
  · rw [List.getElem?_eq_none (by omega)] at hu; simp at hu
theorem Own.two {B : Nat} {w : World} {v : Value} {ds es : List Nat} (h : w.ownsRow B 22 1 v (ds.length + es.length) (ds.map (fun d => Value.int .u64 (d : Nat)) ++ es.map (fun d => Value.int .u64 (d : Nat)))) : Own B w v (ds ++ es) := by
  unfold Own; rw [List.length_append, List.map_append]; exact h
def ORel (a : List Nat) (vb : Nat) (w : World) (r i : Value) (wr : World) : Prop :=
  ∃ (t : Nat) (q rs : List Nat), i = .int .i64 ((t : Int) - 1) ∧ t ≤ a.length ∧ At w.heap.size wr w.heap.size a.length q ∧ Below w.heap.size w wr ∧ Rst w.heap.size wr r rs ∧ Hid (Out a vb t q rs)
def IRel (a : List Nat) (vb k : Nat) (w : World) (r i : Value) (wr : World) : Prop :=
  ∃ (m : Nat) (q rs : List Nat), i = .int .i64 ((m : Int) - 1) ∧ m ≤ 16 ∧ At w.heap.size wr w.heap.size a.length q ∧ Below w.heap.size w wr ∧ Rst w.heap.size wr r rs ∧ Hid (In a vb k m q rs)
def OverP (a b : List Nat) (w : World) (e : Ending) (w' : World) : Prop :=
  ∃ v u q r, e = .returned (.tuple #[v, u]) ∧ Digs q ∧ Digs r ∧ val q = val a / val b ∧ val r = val a % val b ∧ q.length = a.length ∧ r.length ≤ 32 * a.length ∧ Own w.heap.size w' v q ∧ Rst w.heap.size w' u r ∧ Below w.heap.size w w'
set_option maxHeartbeats 1600000 in
theorem over_any (v u : Value) (a b : List Nat) (w : World) (hv : Rd w v a) (hu : Rd w u b) (ha : Digs a) (hb : Digs b) (hpos : 0 < val b) (hla : a.length ≤ 1048576) (hlb : b.length ≤ 1048576) :
    Calls Tryz.prog 69 #[v, u] w (OverP a b w) := by
  obtain ⟨av, capv, rfl, _, hcv⟩ := hv
  obtain ⟨au, capu, rfl, hcapu, hcu⟩ := hu
  obtain ⟨i0, hi, hz0, hz1, hz2⟩ := info_parts infoU
  have HV := Lib.hid hcv
  clear hcv
  go_enter Tryz.func69, Tryz.ntmps69
  go_wp2_with (at_make; refine wpList_make_full _ rfl _ _ 92 rfl w.heap.size 22 i0 (.int .u64 0) 1 Tryz.underlying92 hi hz0 hz1 _ _ _ _ a.length rfl rfl (by omega) (by omega) ?b2 ?b3 (Nat.le_refl _) ?_)
  case b2 => rw [hz2]; omega
  case b3 => unfold maxLen; omega
  intro w1 hown hgrow
  have hb1 : Below w.heap.size w w1 := Below.grown (Below.refl _ _) hgrow (Nat.le_refl _) (fun j hj => by cases hj)
  clear hgrow
  have hA : At w.heap.size w1 w.heap.size a.length (List.replicate a.length 0) := by
    unfold At
    rw [List.map_replicate]
    have e : (madeCells (Value.cells (.int .u64 0)) (a.length * 1)).toList = List.replicate a.length (Value.int .u64 ((0 : Nat) : Int)) := by
      rw [Nat.mul_one]; exact toList_madeCells_one _ _
    rw [← e, Nat.mul_one]; exact hown
  clear hown
  have hsz : w.heap.size < w1.heap.size := (World.ownsRow.lt hA w.heap.size rfl).2
  go_wp2_with (fail)
  have hcu1 : ∀ j, j < b.length → ∃ g o, au = some ⟨g, o, none⟩ ∧ g < (w1.alloc (.cells #[] 22)).heap.size ∧ (w1.alloc (.cells #[] 22)).cell? ⟨g, o + j, none⟩ = some (.int .u64 (dg b j : Nat)) := fun j hj => by
    obtain ⟨g, o, e, hg, hc⟩ := hcu j hj
    have hb2 := hb1.alloc (Nat.le_of_lt hsz) (.cells #[] 22)
    exact ⟨g, o, e, by have := hb2.size; omega, (hb2.cell (p := ⟨g, o + j, none⟩) hg).trans hc⟩
  refine (trim_any au capu b _ hcapu hcu1 (by omega)).mono ?_
  rintro e w' ⟨n, m, rfl, hn, hvn, rfl⟩
  have RB : Rd w (.slice au n capu) (b.take n) := Rd.take hcu hn hcapu
  have hbb := hb.take n
  have hlb' : (b.take n).length = n := by rw [List.length_take]; omega
  have HVB := Lib.hid hvn
  clear hcu hcu1 hvn
  have hnx0 : Below w.heap.size w ((w1.alloc (.cells #[] 22)).drewN m) := below_drewN (hb1.alloc (Nat.le_of_lt hsz) _) m
  have hA0 : At w.heap.size ((w1.alloc (.cells #[] 22)).drewN m) w.heap.size a.length (List.replicate a.length 0) := World.ownsRow.alloc hA _
  have hr0 : Rst w.heap.size ((w1.alloc (.cells #[] 22)).drewN m) (.slice (some ⟨w1.heap.size, 0, none⟩) 0 0) [] := ⟨_, _, rfl, ⟨by simp, by omega⟩, fun j hj => by simp at hj⟩
  generalize (w1.alloc (.cells #[] 22)).drewN m = w3 at *
  generalize b.take n = bt at *
  have H0 := Lib.hid (Out.start a (val b) hpos)
  clear hA hsz hb1
  obtain ⟨wq, hwq⟩ : ∃ rv, rv = Value.slice (some ⟨w1.heap.size, 0, none⟩) 0 0 := ⟨_, rfl⟩
  rw [← hwq] at hr0
  rw [← hwq]
  clear hwq
  go_wp2_with (fail)
  go_loopw [7, 8, 9] (fun r i _ wr => ORel a (val b) w r i wr) (fun _ i _ _ => (intOf i + 1).toNat)
  case atStart => exact ⟨a.length, _, [], rfl, Nat.le_refl _, hA0, hnx0, hr0, H0⟩
  case round =>
    clear hA0 hnx0 hr0 H0
    obtain ⟨t, q, rs, rfl, ht, hA, hnx, hrst, hO⟩ := hrel
    cases t with
    | zero =>
      obtain ⟨o1, o2, o3, o4, o5, o6⟩ := hO.out.over
      go_wp2_with (fail)
      go_ret2
      exact ⟨_, _, q, rs, rfl, o1, o2, o3, o4, o5, o6, hA.own o5, hrst, hnx⟩
    | succ k =>
      have ek : ((k + 1 : Nat) : Int) - 1 = k := by omega
      rw [ek]
      clear ek
      obtain ⟨ga, oa, rfl, hga, hca⟩ := HV.out k (by omega)
      obtain ⟨x, hx⟩ : ∃ x, Hid (dg a k = x) := ⟨_, Lib.hid rfl⟩
      have hxb : x < 65536 := by rw [← hx.out]; exact ha.dg k
      rw [hx.out] at hca
      have hc' : wr.cell? ⟨ga, oa + k, none⟩ = some (.int .u64 x) := (hnx.cell (p := ⟨ga, oa + k, none⟩) hga).trans hca
      by_cases h0 : x = 0
      · by_cases h00 : rs.length = 0
        · have HN := Lib.hid (hO.out.skip (by rw [hx.out]; exact h0) h00)
          have hrst' := hrst
          obtain ⟨ra, rcap, rfl, _, _⟩ := hrst'
          have hq := bq_yes (show (x : Int) = 0 from by omega)
          have hq2 := bq_yes (show (rs.length : Int) = 0 from by omega)
          go_wp2_with (fail)
          go_roundw
          case rel => exact ⟨k, q, rs, by go_num, by omega, hA, hnx, hrst, HN⟩
          case measure => simp [intOf]
        · have HI := Lib.hid (hO.out.enter ha)
          have hkl : k < a.length := by omega
          clear hO
          have hrst' := hrst
          obtain ⟨ra, rcap, rfl, _, _⟩ := hrst'
          have hq := bq_yes (show (x : Int) = 0 from by omega)
          have hq2 := bq_no (show ¬ (rs.length : Int) = 0 from by omega)
          clear h0 h00
          go_wp2_with (fail)
          clear hc' hq hq2
          obtain ⟨wo, hwo⟩ : ∃ wo : World, Hid (wo = wr) := ⟨_, Lib.hid rfl⟩
          rw [← hwo.out]
          obtain ⟨rv, hrv⟩ : ∃ rv : Value, Hid (rv = .slice ra rs.length rcap) := ⟨_, Lib.hid rfl⟩
          go_loopw [7, 9] (IRel a (val b) k w) (fun _ i _ => (intOf i + 1).toNat)
          case atStart => exact ⟨16, q, rs, rfl, Nat.le_refl _, by rw [hwo.out]; exact hA, by rw [hwo.out]; exact hnx, by rw [hwo.out]; exact hrst, HI⟩
          case round =>
            clear HI hA hnx hrst
            obtain ⟨m, q, rs, rfl, hm, hA, hnx, hrst, hR⟩ := hrel
            cases m with
            | zero =>
              have HL := Lib.hid hR.out.leave
              go_wp2_with (fail)
              go_roundw
              case rel => exact ⟨k, q, rs, by go_num, by omega, hA, hnx, hrst, HL⟩
              case measure => simp [intOf]
            | succ j =>
              have ej : ((j + 1 : Nat) : Int) - 1 = j := by omega
              rw [ej]
              clear ej
              have hj : j ≤ 15 := by omega
              have hr1 : Digs rs := hR.out.2.2.1
              have hr2 : rs.length + 32 * k + 2 * (j + 1) ≤ 32 * a.length := hR.out.2.2.2.2.2.2.2
              have hlt : w.heap.size < wr.heap.size := (World.ownsRow.lt hA w.heap.size rfl).2
              go_wp2_with (fail)
              refine (plus_any _ _ rs rs _ hrst.rd hrst.rd hr1 hr1 (by omega) (by omega)).mono ?_
              rintro e w2 ⟨v1, r1, rfl, ⟨hd1, hv1, hl1⟩, ho1, hb2⟩
              have hsw := hnx.size
              have hA2 := hA.later hb2
              have hnx2 := hnx.trans (hb2.mono hsw)
              have hc2 : w2.cell? ⟨ga, oa + k, none⟩ = some (.int .u64 x) := (hnx2.cell (p := ⟨ga, oa + k, none⟩) hga).trans hca
              have hlt2 : w.heap.size < w2.heap.size := by have := hb2.size; omega
              have hbit := shr_bit x j
              clear hb2 hrst hA hnx
              by_cases h1 : x / 2 ^ j % 2 = 1
              · have hq := bq_yes (show ((x : Int) / 2 ^ j).tmod 2 = 1 from by rw [hbit, h1]; rfl)
                have hone : Rd (w2.alloc (.cells #[.int .u64 1] 22)) (.slice (some ⟨w2.heap.size, 0, none⟩) 1 1) [1] := (ownsU w2 [1] (by decide)).rd
                have hd11 : Digs [1] := by intro z hz; simp at hz; omega
                have hv11 : val [1] = 1 := rfl
                have ho1' := ho1.rd.later ((Below.refl _ w2).alloc (Nat.le_refl _) (.cells #[.int .u64 1] 22)) (Nat.le_refl _)
                have hnxa := hnx2.alloc (Nat.le_of_lt hlt2) (.cells #[.int .u64 1] 22)
                have hAa : At w.heap.size (w2.alloc (.cells #[.int .u64 1] 22)) w.heap.size a.length q := World.ownsRow.alloc hA2 _
                have hlta : w.heap.size < (w2.alloc (.cells #[.int .u64 1] 22)).heap.size := by have := (World.ownsRow.lt hAa w.heap.size rfl).2; exact this
                go_wp2_with (fail)
                refine (plus_any _ _ r1 [1] _ ho1' hone hd1 hd11 (by omega) (by decide)).mono ?_
                rintro e w3 ⟨v2, r2, rfl, ⟨hd2, hv2, hl2⟩, ho2, hb3⟩
                have hl2' : r2.length ≤ rs.length + 2 := by simp at hl2; omega
                rw [hv11] at hv2
                clear hq hbit hone hd11 hv11 ho1'
                have hnx3 : Below w.heap.size w w3 := hnxa.trans (hb3.mono hnxa.size)
                have hA3 : At w.heap.size w3 w.heap.size a.length q := hAa.later hb3
                have hc3 : w3.cell? ⟨ga, oa + k, none⟩ = some (.int .u64 x) := (hnx3.cell (p := ⟨ga, oa + k, none⟩) hga).trans hca
                have hrst3 := ho2.rst (B := w.heap.size) hlta
                have RB3 := RB.later hnx3 (Nat.le_refl _)
                have hlt3 : w.heap.size < w3.heap.size := (World.ownsRow.lt hA3 w.heap.size rfl).2
                clear hc2 hA2 hnx2 hnxa hAa hb3
                go_wp2_with (fail)
                refine (less_any _ _ r2 bt _ ho2.rd RB3 hd2 hbb (by omega) (by omega)).mono ?_
                rintro e w' ⟨rfl, rfl⟩
                cases hless : lessB r2 bt with
                | true =>
                  have hv3 : val r2 < val bt := by simpa [lessB] using hless
                  have HN := Lib.hid (hR.out.next0 hj hd2 (by rw [hx.out]; omega) (by rw [← HVB.out]; exact hv3) (by omega))
                  clear hless hv3
                  go_wp2_with (fail)
                  go_roundw
                  case rel => exact ⟨j, q, r2, by go_num, by omega, hA3, hnx3, hrst3, HN⟩
                  case measure => simp [intOf]
                | false =>
                  have hv3 : val bt ≤ val r2 := by
                    have : ¬ val r2 < val bt := by simpa [lessB] using hless
                    omega
                  have HV3 := Lib.hid hv3
                  clear hless
                  go_wp2_with (fail)
                  refine (minus_any _ _ r2 bt _ ho2.rd RB3 hd2 hbb HV3 (by omega) (by omega)).mono ?_
                  rintro e w4 ⟨v3, r3, rfl, ⟨hd3, hv4, hl3⟩, ho4, hb4⟩
                  obtain ⟨a3, cap3, rfl, hcap3, hcell3⟩ := ho4.cells'
                  have hcell4 : ∀ j, j < r3.length → ∃ g o, a3 = some ⟨g, o, none⟩ ∧ g < w4.heap.size ∧ w4.cell? ⟨g, o + j, none⟩ = some (.int .u64 (dg r3 j : Nat)) := fun y hy => by
                    obtain ⟨g, o, e, hg, hc⟩ := hcell3 y hy
                    exact ⟨g, o, e, hg.2, hc⟩
                  have HC4 := Lib.hid hcell4
                  have HC3 := Lib.hid hcell3
                  clear hcell3 hcell4
                  have HR3 := Lib.hid hl3
                  have hr3l : r3.length ≤ 1099511627770 := by omega
                  clear hl3
                  go_wp2_with (fail)
                  refine (trim_any a3 cap3 r3 w4 hcap3 HC4.out hr3l).mono ?_
                  rintro e w' ⟨n3, m3, rfl, hn3, hvn3, rfl⟩
                  have hb5 := below_drewN hb4 m3
                  have hA5 : At w.heap.size (w4.drewN m3) w.heap.size a.length q := hA3.later hb5
                  have hnx5 := hnx3.trans (hb5.mono (Nat.le_of_lt hlt3))
                  have hrst5 : Rst w.heap.size (w4.drewN m3) (.slice a3 n3 cap3) (r3.take n3) := by
                    have hln : (r3.take n3).length = n3 := by rw [List.length_take]; omega
                    refine ⟨a3, cap3, by rw [hln], ⟨by omega, hcap3.2⟩, fun y hy => ?_⟩
                    rw [hln] at hy
                    obtain ⟨g, o, e, hg, hc⟩ := HC3.out y (by omega)
                    refine ⟨g, o, e, ⟨by omega, hg.2⟩, ?_⟩
                    rw [show (w4.drewN m3).cell? ⟨g, o + y, none⟩ = w4.cell? ⟨g, o + y, none⟩ from rfl, hc, dg_lt (by omega), dg_lt (by omega)]; simp
                  have hroom := hR.out.room hj
                  have hqd := hA5.cell k (by omega) hR.out.1
                  have hfz := hA5.free k
                  obtain ⟨z, hz⟩ : ∃ z, Hid (dg q k = z) := ⟨_, Lib.hid rfl⟩
                  have HN := Lib.hid (hR.out.next1 (r' := r3.take n3) hj hkl (hd3.take n3) (by rw [hvn3, hv4, hx.out]; have := HVB.out; omega) (by rw [List.length_take]; have := HR3.out; omega))
                  rw [hz.out] at hqd hroom HN
                  have hroomI : (z : Int) + 2 ^ j < 65536 := by
                    have : ((z + 2 ^ j : Nat) : Int) < 65536 := by omega
                    simpa using this
                  have hpI : 0 ≤ (2 : Int) ^ j := Int.pow_nonneg (by decide)
                  clear hroom hv3 hv4 hvn3 ho4 hb4 hb5 hc3 hA3 hnx3 hrst3 RB3 hlt3
                  generalize w4.drewN m3 = w5 at *
                  go_wp2_with (fail)
                  go_roundw
                  case rel => 
                    have ec : (z : Int) + 2 ^ j = ((z + 2 ^ j : Nat) : Int) := by simp
                    rw [ec]
                    exact ⟨j, _, _, by go_num, by omega, hA5.store k _, hA5.grown k _ hnx5 (Nat.le_refl _), hrst5.store k _, HN⟩
                  case measure => simp [intOf]
              · have hq := bq_no (show ¬ ((x : Int) / 2 ^ j).tmod 2 = 1 from by rw [hbit]; omega)
                have h2 : x / 2 ^ j % 2 = 0 := by omega
                clear hbit h1
                have hl2' : r1.length ≤ rs.length + 2 := by omega
                have hnx3 : Below w.heap.size w w2 := hnx2
                have hA3 : At w.heap.size w2 w.heap.size a.length q := hA2
                have hc3 : w2.cell? ⟨ga, oa + k, none⟩ = some (.int .u64 x) := (hnx3.cell (p := ⟨ga, oa + k, none⟩) hga).trans hca
                have hrst3 := ho1.rst (B := w.heap.size) hlt
                have RB3 := RB.later hnx3 (Nat.le_refl _)
                have hlt3 : w.heap.size < w2.heap.size := (World.ownsRow.lt hA3 w.heap.size rfl).2
                clear hc2 hA2 hnx2 
                go_wp2_with (fail)
                refine (less_any _ _ r1 bt _ ho1.rd RB3 hd1 hbb (by omega) (by omega)).mono ?_
                rintro e w' ⟨rfl, rfl⟩
                cases hless : lessB r1 bt with
                | true =>
                  have hv3 : val r1 < val bt := by simpa [lessB] using hless
                  have HN := Lib.hid (hR.out.next0 hj hd1 (by rw [hx.out]; omega) (by rw [← HVB.out]; exact hv3) (by omega))
                  clear hless hv3
                  go_wp2_with (fail)
                  go_roundw
                  case rel => exact ⟨j, q, r1, by go_num, by omega, hA3, hnx3, hrst3, HN⟩
                  case measure => simp [intOf]
                | false =>
                  have hv3 : val bt ≤ val r1 := by
                    have : ¬ val r1 < val bt := by simpa [lessB] using hless
                    omega
                  have HV3 := Lib.hid hv3
                  clear hless
                  go_wp2_with (fail)
                  refine (minus_any _ _ r1 bt _ ho1.rd RB3 hd1 hbb HV3 (by omega) (by omega)).mono ?_
                  rintro e w4 ⟨v3, r3, rfl, ⟨hd3, hv4, hl3⟩, ho4, hb4⟩
                  obtain ⟨a3, cap3, rfl, hcap3, hcell3⟩ := ho4.cells'
                  have hcell4 : ∀ j, j < r3.length → ∃ g o, a3 = some ⟨g, o, none⟩ ∧ g < w4.heap.size ∧ w4.cell? ⟨g, o + j, none⟩ = some (.int .u64 (dg r3 j : Nat)) := fun y hy => by
                    obtain ⟨g, o, e, hg, hc⟩ := hcell3 y hy
                    exact ⟨g, o, e, hg.2, hc⟩
                  have HC4 := Lib.hid hcell4
                  have HC3 := Lib.hid hcell3
                  clear hcell3 hcell4
                  have HR3 := Lib.hid hl3
                  have hr3l : r3.length ≤ 1099511627770 := by omega
                  clear hl3
                  go_wp2_with (fail)
                  refine (trim_any a3 cap3 r3 w4 hcap3 HC4.out hr3l).mono ?_
                  rintro e w' ⟨n3, m3, rfl, hn3, hvn3, rfl⟩
                  have hb5 := below_drewN hb4 m3
                  have hA5 : At w.heap.size (w4.drewN m3) w.heap.size a.length q := hA3.later hb5
                  have hnx5 := hnx3.trans (hb5.mono (Nat.le_of_lt hlt3))
                  have hrst5 : Rst w.heap.size (w4.drewN m3) (.slice a3 n3 cap3) (r3.take n3) := by
                    have hln : (r3.take n3).length = n3 := by rw [List.length_take]; omega
                    refine ⟨a3, cap3, by rw [hln], ⟨by omega, hcap3.2⟩, fun y hy => ?_⟩
                    rw [hln] at hy
                    obtain ⟨g, o, e, hg, hc⟩ := HC3.out y (by omega)
                    refine ⟨g, o, e, ⟨by omega, hg.2⟩, ?_⟩
                    rw [show (w4.drewN m3).cell? ⟨g, o + y, none⟩ = w4.cell? ⟨g, o + y, none⟩ from rfl, hc, dg_lt (by omega), dg_lt (by omega)]; simp
                  have hroom := hR.out.room hj
                  have hqd := hA5.cell k (by omega) hR.out.1
                  have hfz := hA5.free k
                  obtain ⟨z, hz⟩ : ∃ z, Hid (dg q k = z) := ⟨_, Lib.hid rfl⟩
                  have HN := Lib.hid (hR.out.next1 (r' := r3.take n3) hj hkl (hd3.take n3) (by rw [hvn3, hv4, hx.out]; have := HVB.out; omega) (by rw [List.length_take]; have := HR3.out; omega))
                  rw [hz.out] at hqd hroom HN
                  have hroomI : (z : Int) + 2 ^ j < 65536 := by
                    have : ((z + 2 ^ j : Nat) : Int) < 65536 := by omega
                    simpa using this
                  have hpI : 0 ≤ (2 : Int) ^ j := Int.pow_nonneg (by decide)
                  clear hroom hv3 hv4 hvn3 ho4 hb4 hb5 hc3 hA3 hnx3 hrst3 RB3 hlt3
                  generalize w4.drewN m3 = w5 at *
                  go_wp2_with (fail)
                  go_roundw
                  case rel => 
                    have ec : (z : Int) + 2 ^ j = ((z + 2 ^ j : Nat) : Int) := by simp
                    rw [ec]
                    exact ⟨j, _, _, by go_num, by omega, hA5.store k _, hA5.grown k _ hnx5 (Nat.le_refl _), hrst5.store k _, HN⟩
                  case measure => simp [intOf]
      · have HI := Lib.hid (hO.out.enter ha)
        have hkl : k < a.length := by omega
        clear hO
        have hrst' := hrst
        obtain ⟨ra, rcap, rfl, _, _⟩ := hrst'
        have hq := bq_no (show ¬ (x : Int) = 0 from by omega)
        clear h0
        go_wp2_with (fail)
        clear hc' hq
        obtain ⟨wo, hwo⟩ : ∃ wo : World, Hid (wo = wr) := ⟨_, Lib.hid rfl⟩
        rw [← hwo.out]
        obtain ⟨rv, hrv⟩ : ∃ rv : Value, Hid (rv = .slice ra rs.length rcap) := ⟨_, Lib.hid rfl⟩
        go_loopw [7, 9] (IRel a (val b) k w) (fun _ i _ => (intOf i + 1).toNat)
        case atStart => exact ⟨16, q, rs, rfl, Nat.le_refl _, by rw [hwo.out]; exact hA, by rw [hwo.out]; exact hnx, by rw [hwo.out]; exact hrst, HI⟩
        case round =>
          clear HI hA hnx hrst
          obtain ⟨m, q, rs, rfl, hm, hA, hnx, hrst, hR⟩ := hrel
          cases m with
          | zero =>
            have HL := Lib.hid hR.out.leave
            go_wp2_with (fail)
            go_roundw
            case rel => exact ⟨k, q, rs, by go_num, by omega, hA, hnx, hrst, HL⟩
            case measure => simp [intOf]
          | succ j =>
            have ej : ((j + 1 : Nat) : Int) - 1 = j := by omega
            rw [ej]
            clear ej
            have hj : j ≤ 15 := by omega
            have hr1 : Digs rs := hR.out.2.2.1
            have hr2 : rs.length + 32 * k + 2 * (j + 1) ≤ 32 * a.length := hR.out.2.2.2.2.2.2.2
            have hlt : w.heap.size < wr.heap.size := (World.ownsRow.lt hA w.heap.size rfl).2
            go_wp2_with (fail)
            refine (plus_any _ _ rs rs _ hrst.rd hrst.rd hr1 hr1 (by omega) (by omega)).mono ?_
            rintro e w2 ⟨v1, r1, rfl, ⟨hd1, hv1, hl1⟩, ho1, hb2⟩
            have hsw := hnx.size
            have hA2 := hA.later hb2
            have hnx2 := hnx.trans (hb2.mono hsw)
            have hc2 : w2.cell? ⟨ga, oa + k, none⟩ = some (.int .u64 x) := (hnx2.cell (p := ⟨ga, oa + k, none⟩) hga).trans hca
            have hlt2 : w.heap.size < w2.heap.size := by have := hb2.size; omega
            have hbit := shr_bit x j
            clear hb2 hrst hA hnx
            by_cases h1 : x / 2 ^ j % 2 = 1
            · have hq := bq_yes (show ((x : Int) / 2 ^ j).tmod 2 = 1 from by rw [hbit, h1]; rfl)
              have hone : Rd (w2.alloc (.cells #[.int .u64 1] 22)) (.slice (some ⟨w2.heap.size, 0, none⟩) 1 1) [1] := (ownsU w2 [1] (by decide)).rd
              have hd11 : Digs [1] := by intro z hz; simp at hz; omega
              have hv11 : val [1] = 1 := rfl
              have ho1' := ho1.rd.later ((Below.refl _ w2).alloc (Nat.le_refl _) (.cells #[.int .u64 1] 22)) (Nat.le_refl _)
              have hnxa := hnx2.alloc (Nat.le_of_lt hlt2) (.cells #[.int .u64 1] 22)
              have hAa : At w.heap.size (w2.alloc (.cells #[.int .u64 1] 22)) w.heap.size a.length q := World.ownsRow.alloc hA2 _
              have hlta : w.heap.size < (w2.alloc (.cells #[.int .u64 1] 22)).heap.size := by have := (World.ownsRow.lt hAa w.heap.size rfl).2; exact this
              go_wp2_with (fail)
              refine (plus_any _ _ r1 [1] _ ho1' hone hd1 hd11 (by omega) (by decide)).mono ?_
              rintro e w3 ⟨v2, r2, rfl, ⟨hd2, hv2, hl2⟩, ho2, hb3⟩
              have hl2' : r2.length ≤ rs.length + 2 := by simp at hl2; omega
              rw [hv11] at hv2
              clear hq hbit hone hd11 hv11 ho1'
              have hnx3 : Below w.heap.size w w3 := hnxa.trans (hb3.mono hnxa.size)
              have hA3 : At w.heap.size w3 w.heap.size a.length q := hAa.later hb3
              have hc3 : w3.cell? ⟨ga, oa + k, none⟩ = some (.int .u64 x) := (hnx3.cell (p := ⟨ga, oa + k, none⟩) hga).trans hca
              have hrst3 := ho2.rst (B := w.heap.size) hlta
              have RB3 := RB.later hnx3 (Nat.le_refl _)
              have hlt3 : w.heap.size < w3.heap.size := (World.ownsRow.lt hA3 w.heap.size rfl).2
              clear hc2 hA2 hnx2 hnxa hAa hb3
              go_wp2_with (fail)
              refine (less_any _ _ r2 bt _ ho2.rd RB3 hd2 hbb (by omega) (by omega)).mono ?_
              rintro e w' ⟨rfl, rfl⟩
              cases hless : lessB r2 bt with
              | true =>
                have hv3 : val r2 < val bt := by simpa [lessB] using hless
                have HN := Lib.hid (hR.out.next0 hj hd2 (by rw [hx.out]; omega) (by rw [← HVB.out]; exact hv3) (by omega))
                clear hless hv3
                go_wp2_with (fail)
                go_roundw
                case rel => exact ⟨j, q, r2, by go_num, by omega, hA3, hnx3, hrst3, HN⟩
                case measure => simp [intOf]
              | false =>
                have hv3 : val bt ≤ val r2 := by
                  have : ¬ val r2 < val bt := by simpa [lessB] using hless
                  omega
                have HV3 := Lib.hid hv3
                clear hless
                go_wp2_with (fail)
                refine (minus_any _ _ r2 bt _ ho2.rd RB3 hd2 hbb HV3 (by omega) (by omega)).mono ?_
                rintro e w4 ⟨v3, r3, rfl, ⟨hd3, hv4, hl3⟩, ho4, hb4⟩
                obtain ⟨a3, cap3, rfl, hcap3, hcell3⟩ := ho4.cells'
                have hcell4 : ∀ j, j < r3.length → ∃ g o, a3 = some ⟨g, o, none⟩ ∧ g < w4.heap.size ∧ w4.cell? ⟨g, o + j, none⟩ = some (.int .u64 (dg r3 j : Nat)) := fun y hy => by
                  obtain ⟨g, o, e, hg, hc⟩ := hcell3 y hy
                  exact ⟨g, o, e, hg.2, hc⟩
                have HC4 := Lib.hid hcell4
                have HC3 := Lib.hid hcell3
                clear hcell3 hcell4
                have HR3 := Lib.hid hl3
                have hr3l : r3.length ≤ 1099511627770 := by omega
                clear hl3
                go_wp2_with (fail)
                refine (trim_any a3 cap3 r3 w4 hcap3 HC4.out hr3l).mono ?_
                rintro e w' ⟨n3, m3, rfl, hn3, hvn3, rfl⟩
                have hb5 := below_drewN hb4 m3
                have hA5 : At w.heap.size (w4.drewN m3) w.heap.size a.length q := hA3.later hb5
                have hnx5 := hnx3.trans (hb5.mono (Nat.le_of_lt hlt3))
                have hrst5 : Rst w.heap.size (w4.drewN m3) (.slice a3 n3 cap3) (r3.take n3) := by
                  have hln : (r3.take n3).length = n3 := by rw [List.length_take]; omega
                  refine ⟨a3, cap3, by rw [hln], ⟨by omega, hcap3.2⟩, fun y hy => ?_⟩
                  rw [hln] at hy
                  obtain ⟨g, o, e, hg, hc⟩ := HC3.out y (by omega)
                  refine ⟨g, o, e, ⟨by omega, hg.2⟩, ?_⟩
                  rw [show (w4.drewN m3).cell? ⟨g, o + y, none⟩ = w4.cell? ⟨g, o + y, none⟩ from rfl, hc, dg_lt (by omega), dg_lt (by omega)]; simp
                have hroom := hR.out.room hj
                have hqd := hA5.cell k (by omega) hR.out.1
                have hfz := hA5.free k
                obtain ⟨z, hz⟩ : ∃ z, Hid (dg q k = z) := ⟨_, Lib.hid rfl⟩
                have HN := Lib.hid (hR.out.next1 (r' := r3.take n3) hj hkl (hd3.take n3) (by rw [hvn3, hv4, hx.out]; have := HVB.out; omega) (by rw [List.length_take]; have := HR3.out; omega))
                rw [hz.out] at hqd hroom HN
                have hroomI : (z : Int) + 2 ^ j < 65536 := by
                  have : ((z + 2 ^ j : Nat) : Int) < 65536 := by omega
                  simpa using this
                have hpI : 0 ≤ (2 : Int) ^ j := Int.pow_nonneg (by decide)
                clear hroom hv3 hv4 hvn3 ho4 hb4 hb5 hc3 hA3 hnx3 hrst3 RB3 hlt3
                generalize w4.drewN m3 = w5 at *
                go_wp2_with (fail)
                go_roundw
                case rel => 
                  have ec : (z : Int) + 2 ^ j = ((z + 2 ^ j : Nat) : Int) := by simp
                  rw [ec]
                  exact ⟨j, _, _, by go_num, by omega, hA5.store k _, hA5.grown k _ hnx5 (Nat.le_refl _), hrst5.store k _, HN⟩
                case measure => simp [intOf]
            · have hq := bq_no (show ¬ ((x : Int) / 2 ^ j).tmod 2 = 1 from by rw [hbit]; omega)
              have h2 : x / 2 ^ j % 2 = 0 := by omega
              clear hbit h1
              have hl2' : r1.length ≤ rs.length + 2 := by omega
              have hnx3 : Below w.heap.size w w2 := hnx2
              have hA3 : At w.heap.size w2 w.heap.size a.length q := hA2
              have hc3 : w2.cell? ⟨ga, oa + k, none⟩ = some (.int .u64 x) := (hnx3.cell (p := ⟨ga, oa + k, none⟩) hga).trans hca
              have hrst3 := ho1.rst (B := w.heap.size) hlt
              have RB3 := RB.later hnx3 (Nat.le_refl _)
              have hlt3 : w.heap.size < w2.heap.size := (World.ownsRow.lt hA3 w.heap.size rfl).2
              clear hc2 hA2 hnx2 
              go_wp2_with (fail)
              refine (less_any _ _ r1 bt _ ho1.rd RB3 hd1 hbb (by omega) (by omega)).mono ?_
              rintro e w' ⟨rfl, rfl⟩
              cases hless : lessB r1 bt with
              | true =>
                have hv3 : val r1 < val bt := by simpa [lessB] using hless
                have HN := Lib.hid (hR.out.next0 hj hd1 (by rw [hx.out]; omega) (by rw [← HVB.out]; exact hv3) (by omega))
                clear hless hv3
                go_wp2_with (fail)
                go_roundw
                case rel => exact ⟨j, q, r1, by go_num, by omega, hA3, hnx3, hrst3, HN⟩
                case measure => simp [intOf]
              | false =>
                have hv3 : val bt ≤ val r1 := by
                  have : ¬ val r1 < val bt := by simpa [lessB] using hless
                  omega
                have HV3 := Lib.hid hv3
                clear hless
                go_wp2_with (fail)
                refine (minus_any _ _ r1 bt _ ho1.rd RB3 hd1 hbb HV3 (by omega) (by omega)).mono ?_
                rintro e w4 ⟨v3, r3, rfl, ⟨hd3, hv4, hl3⟩, ho4, hb4⟩
                obtain ⟨a3, cap3, rfl, hcap3, hcell3⟩ := ho4.cells'
                have hcell4 : ∀ j, j < r3.length → ∃ g o, a3 = some ⟨g, o, none⟩ ∧ g < w4.heap.size ∧ w4.cell? ⟨g, o + j, none⟩ = some (.int .u64 (dg r3 j : Nat)) := fun y hy => by
                  obtain ⟨g, o, e, hg, hc⟩ := hcell3 y hy
                  exact ⟨g, o, e, hg.2, hc⟩
                have HC4 := Lib.hid hcell4
                have HC3 := Lib.hid hcell3
                clear hcell3 hcell4
                have HR3 := Lib.hid hl3
                have hr3l : r3.length ≤ 1099511627770 := by omega
                clear hl3
                go_wp2_with (fail)
                refine (trim_any a3 cap3 r3 w4 hcap3 HC4.out hr3l).mono ?_
                rintro e w' ⟨n3, m3, rfl, hn3, hvn3, rfl⟩
                have hb5 := below_drewN hb4 m3
                have hA5 : At w.heap.size (w4.drewN m3) w.heap.size a.length q := hA3.later hb5
                have hnx5 := hnx3.trans (hb5.mono (Nat.le_of_lt hlt3))
                have hrst5 : Rst w.heap.size (w4.drewN m3) (.slice a3 n3 cap3) (r3.take n3) := by
                  have hln : (r3.take n3).length = n3 := by rw [List.length_take]; omega
                  refine ⟨a3, cap3, by rw [hln], ⟨by omega, hcap3.2⟩, fun y hy => ?_⟩
                  rw [hln] at hy
                  obtain ⟨g, o, e, hg, hc⟩ := HC3.out y (by omega)
                  refine ⟨g, o, e, ⟨by omega, hg.2⟩, ?_⟩
                  rw [show (w4.drewN m3).cell? ⟨g, o + y, none⟩ = w4.cell? ⟨g, o + y, none⟩ from rfl, hc, dg_lt (by omega), dg_lt (by omega)]; simp
                have hroom := hR.out.room hj
                have hqd := hA5.cell k (by omega) hR.out.1
                have hfz := hA5.free k
                obtain ⟨z, hz⟩ : ∃ z, Hid (dg q k = z) := ⟨_, Lib.hid rfl⟩
                have HN := Lib.hid (hR.out.next1 (r' := r3.take n3) hj hkl (hd3.take n3) (by rw [hvn3, hv4, hx.out]; have := HVB.out; omega) (by rw [List.length_take]; have := HR3.out; omega))
                rw [hz.out] at hqd hroom HN
                have hroomI : (z : Int) + 2 ^ j < 65536 := by
                  have : ((z + 2 ^ j : Nat) : Int) < 65536 := by omega
                  simpa using this
                have hpI : 0 ≤ (2 : Int) ^ j := Int.pow_nonneg (by decide)
                clear hroom hv3 hv4 hvn3 ho4 hb4 hb5 hc3 hA3 hnx3 hrst3 RB3 hlt3
                generalize w4.drewN m3 = w5 at *
                go_wp2_with (fail)
                go_roundw
                case rel => 
                  have ec : (z : Int) + 2 ^ j = ((z + 2 ^ j : Nat) : Int) := by simp
                  rw [ec]
                  exact ⟨j, _, _, by go_num, by omega, hA5.store k _, hA5.grown k _ hnx5 (Nat.le_refl _), hrst5.store k _, HN⟩
                case measure => simp [intOf]
end Go.Proofs.YtacicfmalhhceaaGreatDoor.DigW

