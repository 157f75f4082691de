/-
  Numbers as lists of digits of 16 bits, the lowest ones first: plain mathematics, of no program.
-/
namespace DigM
def val : List Nat → Nat
  | [] => 0
  | d :: ds => d + 65536 * val ds
def Digs (ds : List Nat) : Prop := ∀ d ∈ ds, d < 65536
def dg (ds : List Nat) (i : Nat) : Nat := ds.getD i 0
theorem dg_lt {ds : List Nat} {i : Nat} (h : i < ds.length) : dg ds i = ds[i] := by unfold dg; simp [h]
theorem dg_ge {ds : List Nat} {i : Nat} (h : ds.length ≤ i) : dg ds i = 0 := by unfold dg; simp [h]
theorem Digs.dg {ds : List Nat} (h : Digs ds) (i : Nat) : dg ds i < 65536 := by
  by_cases hi : i < ds.length
  · rw [dg_lt hi]; exact h _ (List.getElem_mem hi)
  · rw [dg_ge (by omega)]; decide
theorem Digs.nil : Digs [] := fun _ h => by cases h
theorem Digs.snoc {ds : List Nat} {d : Nat} (h : Digs ds) (hd : d < 65536) : Digs (ds ++ [d]) := by
  intro x hx
  rcases List.mem_append.1 hx with hx | hx
  · exact h x hx
  · rw [List.mem_singleton] at hx; rw [hx]; exact hd
theorem Digs.append {a b : List Nat} (ha : Digs a) (hb : Digs b) : Digs (a ++ b) := by
  intro x hx
  rcases List.mem_append.1 hx with hx | hx
  · exact ha x hx
  · exact hb x hx
theorem Digs.take {a : List Nat} (ha : Digs a) (k : Nat) : Digs (a.take k) := fun x hx => ha x (List.mem_of_mem_take hx)
theorem Digs.drop {a : List Nat} (ha : Digs a) (k : Nat) : Digs (a.drop k) := fun x hx => ha x (List.mem_of_mem_drop hx)
theorem Digs.set {a : List Nat} (ha : Digs a) (k d : Nat) (hd : d < 65536) : Digs (a.set k d) := by
  intro x hx
  rcases List.mem_or_eq_of_mem_set hx with hx | hx
  · exact ha x hx
  · rw [hx]; exact hd
theorem Digs.rep (n : Nat) : Digs (List.replicate n 0) := fun x hx => by rw [List.eq_of_mem_replicate hx]; decide
theorem val_append : ∀ (a b : List Nat), val (a ++ b) = val a + 65536 ^ a.length * val b
  | [], b => by simp [val]
  | d :: a, b => by
    have := val_append a b
    simp only [List.cons_append, val, this, List.length_cons, Nat.pow_succ]
    rw [Nat.mul_add, ← Nat.mul_assoc, Nat.mul_comm 65536 (65536 ^ a.length)]
    omega
theorem val_snoc (a : List Nat) (d : Nat) : val (a ++ [d]) = val a + 65536 ^ a.length * d := by rw [val_append]; simp [val]
theorem val_lt : ∀ (ds : List Nat), Digs ds → val ds < 65536 ^ ds.length
  | [], _ => by simp [val]
  | d :: ds, h => by
    have h1 := val_lt ds (fun x hx => h x (List.mem_cons_of_mem _ hx))
    have h2 := h d (List.mem_cons_self ..)
    simp only [val, List.length_cons, Nat.pow_succ]
    omega
theorem val_split (ds : List Nat) (k : Nat) (h : k ≤ ds.length) : val ds = val (ds.take k) + 65536 ^ k * val (ds.drop k) := by
  have := val_append (ds.take k) (ds.drop k)
  rw [List.take_append_drop, List.length_take, Nat.min_eq_left h] at this
  exact this
theorem val_take (ds : List Nat) (k : Nat) : val (ds.take (k + 1)) = val (ds.take k) + 65536 ^ k * dg ds k := by
  by_cases h : k < ds.length
  · rw [List.take_succ_eq_append_getElem h, val_snoc, List.length_take, Nat.min_eq_left (by omega), dg_lt h]
  · rw [List.take_of_length_le (by omega), List.take_of_length_le (by omega), dg_ge (by omega)]; simp
theorem val_drop (ds : List Nat) (k : Nat) : val (ds.drop k) = dg ds k + 65536 * val (ds.drop (k + 1)) := by
  by_cases h : k < ds.length
  · rw [List.drop_eq_getElem_cons h, dg_lt h]; rfl
  · rw [List.drop_of_length_le (by omega), List.drop_of_length_le (by omega), dg_ge (by omega)]; rfl
theorem val_full (ds : List Nat) (k : Nat) (h : ds.length ≤ k) : val (ds.take k) = val ds := by rw [List.take_of_length_le h]
theorem val_take_le (ds : List Nat) (k : Nat) : val (ds.take k) ≤ val ds := by
  by_cases h : k ≤ ds.length
  · rw [val_split ds k h]; omega
  · rw [val_full ds k (by omega)]; omega
theorem val_rep : ∀ n : Nat, val (List.replicate n 0) = 0
  | 0 => rfl
  | n + 1 => by rw [List.replicate_succ]; simp [val, val_rep n]
theorem dg_le (ds : List Nat) (k : Nat) : 65536 ^ k * dg ds k ≤ val ds := by
  have h1 := val_take ds k
  have h2 := val_take_le ds (k + 1)
  omega
theorem val_set (ds : List Nat) (k d : Nat) (h : k < ds.length) : val (ds.set k d) + 65536 ^ k * dg ds k = val ds + 65536 ^ k * d := by
  have h1 := val_split (ds.set k d) (k + 1) (by simp; omega)
  have h2 := val_split ds (k + 1) (by omega)
  have h3 := val_take (ds.set k d) k
  have h4 := val_take ds k
  have e1 : (ds.set k d).take k = ds.take k := List.take_set_of_le (Nat.le_refl _)
  have e2 : (ds.set k d).drop (k + 1) = ds.drop (k + 1) := List.drop_set_of_lt (by omega)
  have e3 : dg (ds.set k d) k = d := by rw [dg_lt (by simp; exact h)]; simp
  rw [e1, e3] at h3
  rw [e2] at h1
  omega
theorem dg_set_ne (ds : List Nat) (k d j : Nat) (h : j ≠ k) : dg (ds.set k d) j = dg ds j := by
  unfold dg
  simp only [List.getD_eq_getElem?_getD]
  rw [List.getElem?_set_ne (fun e => h e.symm)]
theorem dg_set_eq (ds : List Nat) (k d : Nat) (h : k < ds.length) : dg (ds.set k d) k = d := by rw [dg_lt (by simp; exact h)]; simp
/-! ### a sum, digit by digit -/
theorem plus_step (a b o : List Nat) (k c : Nat) (hl : o.length = k) (h : val o + 65536 ^ k * c = val (a.take k) + val (b.take k)) :
    val (o ++ [(dg a k + dg b k + c) % 65536]) + 65536 ^ (k + 1) * ((dg a k + dg b k + c) / 65536) = val (a.take (k + 1)) + val (b.take (k + 1)) := by
  rw [val_snoc, hl, val_take, val_take, Nat.pow_succ, Nat.mul_assoc]
  have e := Nat.mod_add_div (dg a k + dg b k + c) 65536
  have : 65536 ^ k * ((dg a k + dg b k + c) % 65536) + 65536 ^ k * (65536 * ((dg a k + dg b k + c) / 65536)) = 65536 ^ k * dg a k + 65536 ^ k * dg b k + 65536 ^ k * c := by
    rw [← Nat.mul_add, e, Nat.mul_add, Nat.mul_add]
  omega
/-- k digits of a sum are told, c is carried -/
def Sum (a b : List Nat) (k : Nat) (o : List Nat) (c : Nat) : Prop :=
  o.length = k ∧ Digs o ∧ c ≤ 1 ∧ val o + 65536 ^ k * c = val (a.take k) + val (b.take k) ∧ k ≤ max a.length b.length + 1 ∧ (max a.length b.length < k → c = 0)
theorem Sum.start (a b : List Nat) : Sum a b 0 [] 0 := ⟨rfl, Digs.nil, by decide, by simp [val], by omega, by omega⟩
theorem Sum.next {a b o : List Nat} {k c : Nat} (h : Sum a b k o c) (ha : Digs a) (hb : Digs b) (hk : k < a.length ∨ k < b.length ∨ 0 < c) :
    Sum a b (k + 1) (o ++ [(dg a k + dg b k + c) % 65536]) ((dg a k + dg b k + c) / 65536) ∧ dg a k + dg b k + c ≤ 131071 := by
  obtain ⟨h1, h2, h3, h4, h5, h6⟩ := h
  have d1 := ha.dg k
  have d2 := hb.dg k
  have hkm : k ≤ max a.length b.length := by
    apply Nat.le_of_not_lt; intro hc
    have := h6 hc
    omega
  refine ⟨⟨by simp [h1], h2.snoc (by omega), by omega, plus_step a b o k c h1 h4, by omega, fun hlt => ?_⟩, by omega⟩
  have e1 : dg a k = 0 := dg_ge (by omega)
  have e2 : dg b k = 0 := dg_ge (by omega)
  omega
theorem Sum.over {a b o : List Nat} {k c : Nat} (h : Sum a b k o c) (hk : ¬ (k < a.length ∨ k < b.length ∨ 0 < c)) :
    Digs o ∧ val o = val a + val b ∧ o.length ≤ max a.length b.length + 1 := by
  obtain ⟨h1, h2, h3, h4, h5, h6⟩ := h
  have hc : c = 0 := by omega
  rw [hc, val_full a k (by omega), val_full b k (by omega)] at h4
  exact ⟨h2, by omega, by omega⟩
/-! ### four digits as a word -/
def wordAt (ds : List Nat) (at' : Nat) : Nat := val ((ds.drop at').take 4)
theorem word_step (ds : List Nat) (p j : Nat) : val ((ds.drop (p + j)).take (4 - (j + 1) + 1)) = val ((ds.drop (p + (j + 1))).take (4 - (j + 1))) * 65536 + dg ds (p + j) := by
  by_cases h : p + j < ds.length
  · rw [List.drop_eq_getElem_cons h, List.take_succ_cons, dg_lt h]
    simp only [val]
    rw [← Nat.add_assoc p j 1]; omega
  · rw [List.drop_of_length_le (by omega), List.drop_of_length_le (by omega), dg_ge (by omega)]; simp [val]
theorem take_lt (ds : List Nat) (k : Nat) (h : Digs ds) : val (ds.take k) < 65536 ^ k := by
  have h1 := val_lt (ds.take k) (h.take k)
  have h2 : 65536 ^ (ds.take k).length ≤ 65536 ^ k := Nat.pow_le_pow_right (by decide) (by rw [List.length_take]; omega)
  omega
theorem val_take_mod (ds : List Nat) (k : Nat) (h : Digs ds) : val (ds.take k) = val ds % 65536 ^ k := by
  have h1 := take_lt ds k h
  by_cases hk : k ≤ ds.length
  · rw [val_split ds k hk, Nat.add_mul_mod_self_left, Nat.mod_eq_of_lt h1]
  · rw [val_full ds k (by omega)] at h1 ⊢
    rw [Nat.mod_eq_of_lt h1]
theorem val_drop_div (ds : List Nat) (k : Nat) (h : Digs ds) : val (ds.drop k) = val ds / 65536 ^ k := by
  have h1 := take_lt ds k h
  by_cases hk : k ≤ ds.length
  · rw [val_split ds k hk, Nat.add_mul_div_left _ _ (Nat.pow_pos (by decide)), Nat.div_eq_of_lt h1, Nat.zero_add]
  · rw [val_full ds k (by omega)] at h1
    rw [Nat.div_eq_of_lt h1, List.drop_of_length_le (by omega)]; rfl
theorem wordAt_eq (ds : List Nat) (p : Nat) (h : Digs ds) : wordAt ds p = val ds / 65536 ^ p % 18446744073709551616 := by
  unfold wordAt
  rw [val_take_mod _ 4 (h.drop p), val_drop_div ds p h]
theorem wordAt_0 (ds : List Nat) (h : Digs ds) : wordAt ds 0 = val ds % 18446744073709551616 := by rw [wordAt_eq ds 0 h]; simp
theorem wordAt_4 (ds : List Nat) (h : Digs ds) : wordAt ds 4 = val ds / 18446744073709551616 % 18446744073709551616 := wordAt_eq ds 4 h
/-! ### a word's four digits -/
def digits (a : Nat) : List Nat := [a % 65536, a / 65536 % 65536, a / 4294967296 % 65536, a / 281474976710656]
theorem digits_good (a : Nat) (h : a < 18446744073709551616) : Digs (digits a) := by
  intro x hx
  simp [digits] at hx
  omega
theorem digits_val (a : Nat) : val (digits a) = a := by simp only [digits, val]; omega
/-! ### less -/
theorem less_at (a b : List Nat) (j : Nat) (ha : Digs a) (hb : Digs b) (hd : val (a.drop (j + 1)) = val (b.drop (j + 1))) (hn : dg a j ≠ dg b j) : (val a < val b) = (dg a j < dg b j) := by
  have e : ∀ ds, Digs ds → val ds = val (ds.take j) + 65536 ^ j * (dg ds j + 65536 * val (ds.drop (j + 1))) := fun ds h => by
    rw [← val_drop, val_take_mod ds j h, val_drop_div ds j h, Nat.mod_add_div]
  have l1 := take_lt a j ha
  have l2 := take_lt b j hb
  rw [e a ha, e b hb, hd]
  generalize val (b.drop (j + 1)) = t at *
  generalize dg a j = x at *
  generalize dg b j = y at *
  rw [eq_iff_iff]
  constructor
  · intro h
    apply Nat.lt_of_not_le
    intro hc
    have hc' : y + 65536 * t + 1 ≤ x + 65536 * t := by omega
    have := Nat.mul_le_mul_left (65536 ^ j) hc'
    rw [Nat.mul_add, Nat.mul_one] at this
    omega
  · intro h
    have hc' : x + 65536 * t + 1 ≤ y + 65536 * t := by omega
    have := Nat.mul_le_mul_left (65536 ^ j) hc'
    rw [Nat.mul_add, Nat.mul_one] at this
    omega
/-! ### a difference, digit by digit -/
def Dif (a b : List Nat) (k : Nat) (o : List Nat) (c : Nat) : Prop :=
  o.length = k ∧ Digs o ∧ c ≤ 1 ∧ val o + val (b.take k) = val (a.take k) + 65536 ^ k * c
theorem Dif.start (a b : List Nat) : Dif a b 0 [] 0 := ⟨rfl, Digs.nil, by decide, by simp [val]⟩
theorem Dif.next {a b o : List Nat} {k c : Nat} (h : Dif a b k o c) (ha : Digs a) (hb : Digs b) :
    Dif a b (k + 1) (o ++ [(65536 + dg a k - dg b k - c) % 65536]) (1 - (65536 + dg a k - dg b k - c) / 65536) ∧ dg b k ≤ 65535 ∧ dg a k ≤ 65535 ∧ c ≤ 1 ∧ (65536 + dg a k - dg b k - c) / 65536 ≤ 1 := by
  obtain ⟨h1, h2, h3, h4⟩ := h
  have d1 := ha.dg k
  have d2 := hb.dg k
  refine ⟨⟨by simp [h1], h2.snoc (by omega), by omega, ?_⟩, by omega, by omega, h3, by omega⟩
  rw [val_snoc, h1, val_take, val_take, Nat.pow_succ]
  have e : 65536 ^ k * ((65536 + dg a k - dg b k - c) % 65536) + 65536 ^ k * dg b k + 65536 ^ k * c = 65536 ^ k * dg a k + 65536 ^ k * 65536 * (1 - (65536 + dg a k - dg b k - c) / 65536) := by
    rw [Nat.mul_assoc, ← Nat.mul_add, ← Nat.mul_add, ← Nat.mul_add]
    congr 1
    omega
  omega
theorem Dif.over {a b o : List Nat} {k c : Nat} (h : Dif a b k o c) (hk : k = a.length) (ha : Digs a) (_hb : Digs b) (hle : val b ≤ val a) : Digs o ∧ val o = val a - val b ∧ o.length = a.length := by
  obtain ⟨h1, h2, h3, h4⟩ := h
  have l1 := val_lt o h2
  have l2 := val_lt a ha
  rw [h1] at l1
  rw [hk] at h4 l1 h1
  rw [val_full a a.length (Nat.le_refl _)] at h4
  have l3 := val_take_le b a.length
  have hc : c = 0 := by
    rcases Nat.le_one_iff_eq_zero_or_eq_one.1 h3 with h | h
    · exact h
    · rw [h] at h4; omega
  have e : val (b.take a.length) = val b := by
    by_cases hb' : b.length ≤ a.length
    · exact val_full b _ hb'
    · have s := val_split b a.length (by omega)
      have : val (b.drop a.length) = 0 := by
        apply Nat.eq_zero_of_not_pos
        intro hp
        have := Nat.mul_le_mul_left (65536 ^ a.length) hp
        omega
      rw [this] at s; omega
  rw [hc, e] at h4
  exact ⟨h2, by omega, h1⟩
end DigM
