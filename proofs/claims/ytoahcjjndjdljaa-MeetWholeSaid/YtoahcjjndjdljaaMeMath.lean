/-
  How lines meet: plain arithmetic.
-/
import Derived.Test.YtoahcjjndjdljaaRows
import Derived.Test.YtoahcjjndjdljaaLow7
namespace MeM
open PtM OrM
/-- the cross product of the directions of two lines -/
def dd (x y z u s t p q : Int) : Int := (z - x) * (q - t) - (u - y) * (p - s)
theorem dd_1 (x y z u s t p q : Int) : dd x y z u s t p q = crs x y z u p q - crs x y z u s t := by unfold dd crs; grind
theorem dd_2 (x y z u s t p q : Int) : dd x y z u s t p q = crs s t p q x y - crs s t p q z u := by unfold dd crs; grind
theorem dd_comm (x y z u s t p q : Int) : dd s t p q x y z u = -dd x y z u s t p q := by unfold dd; grind
/-- lines touch, told by ends -/
def tch (x y z u s t p q : Int) : Prop := onZ x y z u s t ∨ onZ x y z u p q ∨ onZ s t p q x y ∨ onZ s t p q z u ∨ (crs x y z u s t * crs x y z u p q < 0 ∧ crs s t p q x y * crs s t p q z u < 0)
theorem tch_sides {x y z u s t p q : Int} (hd : ¬(x = z ∧ y = u)) (hd' : ¬(s = p ∧ t = q)) (h : tch x y z u s t p q) : crs x y z u s t * crs x y z u p q ≤ 0 ∧ crs s t p q x y * crs s t p q z u ≤ 0 := ((touch_way hd hd').2 h).2
/-- lines that touch and go in one direction lie along one straight line -/
theorem tch_flat {x y z u s t p q : Int} (hd : ¬(x = z ∧ y = u)) (hd' : ¬(s = p ∧ t = q)) (h : tch x y z u s t p q) (h0 : dd x y z u s t p q = 0) : crs x y z u s t = 0 ∧ crs x y z u p q = 0 := by
  have h1 := (tch_sides hd hd' h).1
  rw [dd_1] at h0
  have e : crs x y z u p q = crs x y z u s t := by omega
  rw [e] at h1 ⊢
  have h2 := sq_nonneg (crs x y z u s t)
  have h3 : crs x y z u s t * crs x y z u s t = 0 := by omega
  have := Int.mul_eq_zero.1 h3
  omega
/-- how far from 0 -/
def ab (n : Int) : Int := (n.natAbs : Int)
theorem cross_abs {x y z u s t p q : Int} (h1 : crs x y z u s t * crs x y z u p q ≤ 0) (h2 : crs s t p q x y * crs s t p q z u ≤ 0) :
    (0 < dd x y z u s t p q → ab (crs s t p q x y) = crs s t p q x y ∧ ab (crs s t p q x y) + ab (crs s t p q z u) = dd x y z u s t p q ∧ ab (crs x y z u s t) = -crs x y z u s t ∧ ab (crs x y z u s t) + ab (crs x y z u p q) = dd x y z u s t p q) ∧
    (dd x y z u s t p q < 0 → ab (crs s t p q x y) = -crs s t p q x y ∧ ab (crs s t p q x y) + ab (crs s t p q z u) = -dd x y z u s t p q ∧ ab (crs x y z u s t) = crs x y z u s t ∧ ab (crs x y z u s t) + ab (crs x y z u p q) = -dd x y z u s t p q) := by
  have d1 := dd_1 x y z u s t p q
  have d2 := dd_2 x y z u s t p q
  have s1 := (mul_sg (crs x y z u s t) (crs x y z u p q)).1
  have s2 := (mul_sg (crs s t p q x y) (crs s t p q z u)).1
  unfold ab
  generalize dd x y z u s t p q = d at *
  generalize crs x y z u s t = A at *
  generalize crs x y z u p q = B at *
  generalize crs s t p q x y = C at *
  generalize crs s t p q z u = D at *
  generalize A * B = r1 at *
  generalize C * D = r2 at *
  constructor <;> intro hd <;> omega
/-- .. and one part of each is where both are -/
theorem cross_at (x y z u s t p q : Int) : x * dd x y z u s t p q + (z - x) * crs s t p q x y = s * dd x y z u s t p q + (p - s) * (-crs x y z u s t) := by unfold dd crs; grind
section
variable {x y z u s t p q : Int} (hd : ¬(x = z ∧ y = u)) (hd' : ¬(s = p ∧ t = q)) (hA : crs x y z u s t = 0) (hB : crs x y z u p q = 0)
section
include hd hA hB
theorem flat_back : crs s t p q x y = 0 ∧ crs s t p q z u = 0 := by
  have hD := len_pos hd
  have e : len x y z u * crs s t p q x y = 0 := by
    unfold crs at hA hB ⊢; unfold len dts; grind
  have e' : len x y z u * crs s t p q z u = 0 := by
    unfold crs at hA hB ⊢; unfold len dts; grind
  exact ⟨((@pos_mul _ (crs s t p q x y) hD).2.2).1 e, ((@pos_mul _ (crs s t p q z u) hD).2.2).1 e'⟩
theorem on0 : onZ s t p q x y ↔ dts x y z u s t * dts x y z u p q ≤ 0 := by
  have hD := len_pos hd
  have e : len x y z u * dts x y s t p q = dts x y z u s t * dts x y z u p q := by
    unfold crs at hA hB; unfold len dts
    grind
  have k := @pos_mul _ (dts x y s t p q) hD
  have f := (flat_back hd hA hB).1
  unfold onZ
  rw [e] at k
  omega
theorem on1 : onZ s t p q z u ↔ (dts x y z u s t - len x y z u) * (dts x y z u p q - len x y z u) ≤ 0 := by
  have hD := len_pos hd
  have e : len x y z u * dts z u s t p q = (dts x y z u s t - len x y z u) * (dts x y z u p q - len x y z u) := by
    unfold crs at hA hB; unfold len dts
    grind
  have k := @pos_mul _ (dts z u s t p q) hD
  have f := (flat_back hd hA hB).2
  unfold onZ
  rw [e] at k
  omega
end
theorem on2 (hd : ¬(x = z ∧ y = u)) (hA : crs x y z u s t = 0) : onZ x y z u s t ↔ 0 ≤ dts x y z u s t ∧ dts x y z u s t ≤ len x y z u := by
  unfold onZ
  rw [on_way hd hA]
  exact ⟨fun h => h.2, fun h => ⟨hA, h⟩⟩
theorem on_a : onZ x y z u x y := by unfold onZ crs dts; constructor <;> simp
theorem on_b : onZ x y z u z u := by
  unfold onZ crs dts
  constructor
  · grind
  · simp
theorem key_a (x y z u : Int) : dts x y z u x y = 0 := by unfold dts; simp
/-- points of one straight line that are as far along are the same -/
theorem key_inj (hd : ¬(x = z ∧ y = u)) {X Y X' Y' : Int} (h1 : crs x y z u X Y = 0) (h2 : crs x y z u X' Y' = 0) (h : dts x y z u X Y = dts x y z u X' Y') : X = X' ∧ Y = Y' := by
  have hD := len_pos hd
  obtain ⟨a1, a2⟩ := along h1
  obtain ⟨b1, b2⟩ := along h2
  rw [h, ← b1] at a1
  rw [h, ← b2] at a2
  have c1 := Int.eq_of_mul_eq_mul_left (by omega) a1
  have c2 := Int.eq_of_mul_eq_mul_left (by omega) a2
  omega
include hd hd' hA hB in
theorem keys_ne : dts x y z u s t ≠ dts x y z u p q := fun h => hd' (key_inj hd hA hB h)
include hA hB in
/-- how far along the other line -/
theorem key_other {X Y : Int} (hX : crs x y z u X Y = 0) : len x y z u * dts s t p q X Y = (dts x y z u p q - dts x y z u s t) * (dts x y z u X Y - dts x y z u s t) := by
  unfold crs at hA hB hX; unfold len dts
  grind
include hd hA hB in
theorem key_order {X Y X' Y' : Int} (h1 : crs x y z u X Y = 0) (h2 : crs x y z u X' Y' = 0) :
    (dts x y z u s t < dts x y z u p q → (dts s t p q X Y ≤ dts s t p q X' Y' ↔ dts x y z u X Y ≤ dts x y z u X' Y')) ∧
    (dts x y z u p q < dts x y z u s t → (dts s t p q X Y ≤ dts s t p q X' Y' ↔ dts x y z u X' Y' ≤ dts x y z u X Y)) := by
  have hD := len_pos hd
  have e1 := key_other hA hB h1
  have e2 := key_other hA hB h2
  have k := @pos_mul _ (dts s t p q X' Y' - dts s t p q X Y) hD
  have e : len x y z u * (dts s t p q X' Y' - dts s t p q X Y) = (dts x y z u p q - dts x y z u s t) * (dts x y z u X' Y' - dts x y z u X Y) := by grind
  rw [e] at k
  clear e e1 e2
  have m := mul_sg (dts x y z u p q - dts x y z u s t) (dts x y z u X' Y' - dts x y z u X Y)
  generalize (dts x y z u p q - dts x y z u s t) * (dts x y z u X' Y' - dts x y z u X Y) = r at *
  constructor <;> intro h <;> omega
end
/-! ### the first and the last of four points, those that are in common -/
section
variable (c : Nat → Bool) (κ : Nat → Int)
def fI : Nat → Nat
  | 0 => 1
  | k + 1 => if (c k && decide (κ k < κ (fI k))) = true then k else fI k
def lI : Nat → Nat
  | 0 => 0
  | k + 1 => if (c k && decide (κ (lI k) < κ k)) = true then k else lI k
/-- as the document goes through them -/
def gI : Nat → Bool × Nat × Nat
  | 0 => (false, 4, 4)
  | k + 1 => if c k = true then (true, if (!(gI k).1 || decide (κ k < κ (gI k).2.1)) = true then k else (gI k).2.1, if (!(gI k).1 || decide (κ (gI k).2.2 < κ k)) = true then k else (gI k).2.2) else gI k
variable {c κ}
theorem fI_lt (k : Nat) (h : k ≤ 4) : fI c κ k < 4 := by
  induction k with
  | zero => simp [fI, lI]
  | succ k ih => unfold fI; split <;> omega
theorem lI_lt (k : Nat) (h : k ≤ 4) : lI c κ k < 4 := by
  induction k with
  | zero => simp [fI, lI]
  | succ k ih => unfold lI; split <;> omega
theorem fI_le (k : Nat) : (∀ j, j < k → c j = true → κ (fI c κ k) ≤ κ j) ∧ κ (fI c κ k) ≤ κ 1 ∧ (fI c κ k = 1 ∨ c (fI c κ k) = true) := by
  induction k with
  | zero => exact ⟨fun j h => absurd h (Nat.not_lt_zero j), Int.le_refl _, .inl rfl⟩
  | succ k ih =>
    obtain ⟨h1, h2, h3⟩ := ih
    unfold fI
    split
    · rename_i h
      rw [Bool.and_eq_true, decide_eq_true_eq] at h
      refine ⟨fun j hj hc => ?_, by omega, .inr h.1⟩
      rcases Nat.lt_succ_iff_lt_or_eq.1 hj with hj | rfl
      · have := h1 j hj hc; omega
      · exact Int.le_refl _
    · rename_i h
      rw [Bool.and_eq_true, decide_eq_true_eq] at h
      refine ⟨fun j hj hc => ?_, h2, h3⟩
      rcases Nat.lt_succ_iff_lt_or_eq.1 hj with hj | rfl
      · exact h1 j hj hc
      · exact Int.not_lt.1 fun hl => h ⟨hc, hl⟩
theorem lI_le (k : Nat) : (∀ j, j < k → c j = true → κ j ≤ κ (lI c κ k)) ∧ κ 0 ≤ κ (lI c κ k) ∧ (lI c κ k = 0 ∨ c (lI c κ k) = true) := by
  induction k with
  | zero => exact ⟨fun j h => absurd h (Nat.not_lt_zero j), Int.le_refl _, .inl rfl⟩
  | succ k ih =>
    obtain ⟨h1, h2, h3⟩ := ih
    unfold lI
    split
    · rename_i h
      rw [Bool.and_eq_true, decide_eq_true_eq] at h
      refine ⟨fun j hj hc => ?_, by omega, .inr h.1⟩
      rcases Nat.lt_succ_iff_lt_or_eq.1 hj with hj | rfl
      · have := h1 j hj hc; omega
      · exact Int.le_refl _
    · rename_i h
      rw [Bool.and_eq_true, decide_eq_true_eq] at h
      refine ⟨fun j hj hc => ?_, h2, h3⟩
      rcases Nat.lt_succ_iff_lt_or_eq.1 hj with hj | rfl
      · exact h1 j hj hc
      · exact Int.not_lt.1 fun hl => h ⟨hc, hl⟩
/-- both ways of going through them tell of points that are as far along -/
theorem gI_same (hc : ∀ j, j < 4 → c j = true → κ 0 ≤ κ j ∧ κ j ≤ κ 1) (k : Nat) (hk : k ≤ 4) :
    ((gI c κ k).1 = false ∧ fI c κ k = 1 ∧ lI c κ k = 0 ∧ ∀ j, j < k → c j = false) ∨ ((gI c κ k).1 = true ∧ κ (gI c κ k).2.1 = κ (fI c κ k) ∧ κ (gI c κ k).2.2 = κ (lI c κ k) ∧ (gI c κ k).2.1 < 4 ∧ (gI c κ k).2.2 < 4) := by
  induction k with
  | zero => exact .inl ⟨rfl, rfl, rfl, fun j h => absurd h (Nat.not_lt_zero j)⟩
  | succ k ih =>
    have ih := ih (by omega)
    unfold gI fI lI
    cases h : c k with
    | false =>
      simp only [Bool.false_and, Bool.false_eq_true, if_false]
      rcases ih with ⟨h1, h2, h3, h4⟩ | h1
      · refine .inl ⟨h1, h2, h3, fun j hj => ?_⟩
        rcases Nat.lt_succ_iff_lt_or_eq.1 hj with hj | rfl
        · exact h4 j hj
        · exact h
      · exact .inr h1
    | true =>
      obtain ⟨g1, g2⟩ := hc k (by omega) h
      right
      simp only [Bool.true_and, if_true]
      rcases ih with ⟨h1, h2, h3, _⟩ | ⟨h1, h2, h3, h4, h5⟩
      · rw [h1, h2, h3]
        simp only [Bool.not_false, Bool.true_or, if_true, decide_eq_true_eq]
        refine ⟨trivial, ?_, ?_, by omega, by omega⟩
        · split <;> omega
        · split <;> omega
      · rw [h1]
        simp only [Bool.not_true, Bool.false_or, decide_eq_true_eq]
        rw [h2, h3]
        refine ⟨trivial, ?_, ?_, ?_, ?_⟩
        · split
          · rfl
          · exact h2
        · split
          · rfl
          · exact h3
        · split <;> omega
        · split <;> omega
end
/-- four points along one straight line: how far along they are, and which of them are in common -/
structure Four (c : Nat → Bool) (κ : Nat → Int) : Prop where
  pos : κ 0 < κ 1
  ne : κ 2 ≠ κ 3
  c0 : c 0 = true ↔ (κ 2 ≤ κ 0 ∧ κ 0 ≤ κ 3) ∨ (κ 3 ≤ κ 0 ∧ κ 0 ≤ κ 2)
  c1 : c 1 = true ↔ (κ 2 ≤ κ 1 ∧ κ 1 ≤ κ 3) ∨ (κ 3 ≤ κ 1 ∧ κ 1 ≤ κ 2)
  c2 : c 2 = true ↔ κ 0 ≤ κ 2 ∧ κ 2 ≤ κ 1
  c3 : c 3 = true ↔ κ 0 ≤ κ 3 ∧ κ 3 ≤ κ 1
section
variable {c : Nat → Bool} {κ : Nat → Int} (H : Four c κ)
theorem lt4 {P : Nat → Prop} (h0 : P 0) (h1 : P 1) (h2 : P 2) (h3 : P 3) : ∀ j, j < 4 → P j
  | 0, _ => h0
  | 1, _ => h1
  | 2, _ => h2
  | 3, _ => h3
  | j + 4, h => absurd h (by omega)
include H
theorem Four.within : ∀ j, j < 4 → c j = true → κ 0 ≤ κ j ∧ κ j ≤ κ 1 := by
  obtain ⟨pos, ne, c0, c1, c2, c3⟩ := H
  refine lt4 ?_ ?_ ?_ ?_ <;> intro h <;> (try rw [c2] at h) <;> (try rw [c3] at h) <;> omega
/-- what is as far along as one in common is in common -/
theorem Four.same : ∀ i, i < 4 → ∀ j, j < 4 → κ i = κ j → c i = c j := by
  obtain ⟨pos, ne, c0, c1, c2, c3⟩ := H
  refine lt4 (lt4 ?_ ?_ ?_ ?_) (lt4 ?_ ?_ ?_ ?_) (lt4 ?_ ?_ ?_ ?_) (lt4 ?_ ?_ ?_ ?_) <;> intro h <;> rw [Bool.eq_iff_iff] <;> (try rw [c0]) <;> (try rw [c1]) <;> (try rw [c2]) <;> (try rw [c3]) <;> omega
theorem Four.first (hs : ∃ j, j < 4 ∧ c j = true) : c (fI c κ 4) = true ∧ ∀ j, j < 4 → c j = true → κ (fI c κ 4) ≤ κ j := by
  obtain ⟨h1, h2, h3⟩ := fI_le (c := c) (κ := κ) 4
  refine ⟨?_, h1⟩
  rcases h3 with h3 | h3
  · obtain ⟨j, hj, hc⟩ := hs
    have h4 := h1 j hj hc
    have h5 := (H.within j hj hc).2
    have h6 := H.same (fI c κ 4) (fI_lt 4 (by omega)) j hj (by rw [h3] at h4 ⊢; omega)
    rw [h6, hc]
  · exact h3
theorem Four.last (hs : ∃ j, j < 4 ∧ c j = true) : c (lI c κ 4) = true ∧ ∀ j, j < 4 → c j = true → κ j ≤ κ (lI c κ 4) := by
  obtain ⟨h1, h2, h3⟩ := lI_le (c := c) (κ := κ) 4
  refine ⟨?_, h1⟩
  rcases h3 with h3 | h3
  · obtain ⟨j, hj, hc⟩ := hs
    have h4 := h1 j hj hc
    have h5 := (H.within j hj hc).1
    have h6 := H.same (lI c κ 4) (lI_lt 4 (by omega)) j hj (by rw [h3] at h4 ⊢; omega)
    rw [h6, hc]
  · exact h3
/-- one point alone in common is an end of both -/
theorem Four.sole {i : Nat} (hi : i < 4) (hc : c i = true) (h : ∀ j, j < 4 → c j = true → κ j = κ i) : (κ i = κ 0 ∨ κ i = κ 1) ∧ (κ i = κ 2 ∨ κ i = κ 3) := by
  have k0 := h 0 (by omega)
  have k1 := h 1 (by omega)
  have k2 := h 2 (by omega)
  have k3 := h 3 (by omega)
  obtain ⟨pos, ne, c0, c1, c2, c3⟩ := H
  rw [c0] at k0
  rw [c1] at k1
  rw [c2] at k2
  rw [c3] at k3
  have : i = 0 ∨ i = 1 ∨ i = 2 ∨ i = 3 := by omega
  rcases this with rfl | rfl | rfl | rfl <;> (try rw [c0] at hc) <;> (try rw [c1] at hc) <;> (try rw [c2] at hc) <;> (try rw [c3] at hc) <;> clear h <;> omega
end
end MeM
