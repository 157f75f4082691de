/-
  Texts of the layers below in one: MeMath Me MeArgs MeFn MeFn2 MeFn3 MeRef MeRef2 MeEq MeEq2 MeEq3 MeFn4 MeRef3.
-/
import Derived.Test.YtacicfmalhhceaaGreatDoorRows
import Derived.Test.YtacicfmalhhceaaGreatDoorLow7
import Derived.Test.YtacicfmalhhceaaGreatDoorLow6
import Derived.Test.YtacicfmalhhceaaGreatDoorBase
import Derived.Test.YtacicfmalhhceaaGreatDoorLow2
import Derived.Test.YtacicfmalhhceaaGreatDoorLow5
/- How lines meet: plain arithmetic. -/
namespace MeM
open PtM OrM
/-- the cross product of the directions of two lines -/
def dd (x y z u s t p q : Int) : Int := (z - x) * (q - t) - (u - y) * (p - s)
theorem dd_1 (x y z u s t p q : Int) : dd x y z u s t p q = crs x y z u p q - crs x y z u s t := by unfold dd crs; grind
theorem dd_2 (x y z u s t p q : Int) : dd x y z u s t p q = crs s t p q x y - crs s t p q z u := by unfold dd crs; grind
theorem dd_comm (x y z u s t p q : Int) : dd s t p q x y z u = -dd x y z u s t p q := by unfold dd; grind
/-- lines touch, told by ends -/
def tch (x y z u s t p q : Int) : Prop := onZ x y z u s t ∨ onZ x y z u p q ∨ onZ s t p q x y ∨ onZ s t p q z u ∨ (crs x y z u s t * crs x y z u p q < 0 ∧ crs s t p q x y * crs s t p q z u < 0)
theorem tch_sides {x y z u s t p q : Int} (hd : ¬(x = z ∧ y = u)) (hd' : ¬(s = p ∧ t = q)) (h : tch x y z u s t p q) : crs x y z u s t * crs x y z u p q ≤ 0 ∧ crs s t p q x y * crs s t p q z u ≤ 0 := ((touch_way hd hd').2 h).2
/-- lines that touch and go in one direction lie along one straight line -/
theorem tch_flat {x y z u s t p q : Int} (hd : ¬(x = z ∧ y = u)) (hd' : ¬(s = p ∧ t = q)) (h : tch x y z u s t p q) (h0 : dd x y z u s t p q = 0) : crs x y z u s t = 0 ∧ crs x y z u p q = 0 := by
  have h1 := (tch_sides hd hd' h).1
  rw [dd_1] at h0
  have e : crs x y z u p q = crs x y z u s t := by omega
  rw [e] at h1 ⊢
  have h2 := sq_nonneg (crs x y z u s t)
  have h3 : crs x y z u s t * crs x y z u s t = 0 := by omega
  have := Int.mul_eq_zero.1 h3
  omega
/-- how far from 0 -/
def ab (n : Int) : Int := (n.natAbs : Int)
theorem cross_abs {x y z u s t p q : Int} (h1 : crs x y z u s t * crs x y z u p q ≤ 0) (h2 : crs s t p q x y * crs s t p q z u ≤ 0) :
    (0 < dd x y z u s t p q → ab (crs s t p q x y) = crs s t p q x y ∧ ab (crs s t p q x y) + ab (crs s t p q z u) = dd x y z u s t p q ∧ ab (crs x y z u s t) = -crs x y z u s t ∧ ab (crs x y z u s t) + ab (crs x y z u p q) = dd x y z u s t p q) ∧
    (dd x y z u s t p q < 0 → ab (crs s t p q x y) = -crs s t p q x y ∧ ab (crs s t p q x y) + ab (crs s t p q z u) = -dd x y z u s t p q ∧ ab (crs x y z u s t) = crs x y z u s t ∧ ab (crs x y z u s t) + ab (crs x y z u p q) = -dd x y z u s t p q) := by
  have d1 := dd_1 x y z u s t p q
  have d2 := dd_2 x y z u s t p q
  have s1 := (mul_sg (crs x y z u s t) (crs x y z u p q)).1
  have s2 := (mul_sg (crs s t p q x y) (crs s t p q z u)).1
  unfold ab
  generalize dd x y z u s t p q = d at *
  generalize crs x y z u s t = A at *
  generalize crs x y z u p q = B at *
  generalize crs s t p q x y = C at *
  generalize crs s t p q z u = D at *
  generalize A * B = r1 at *
  generalize C * D = r2 at *
  constructor <;> intro hd <;> omega
/-- .. and one part of each is where both are -/
theorem cross_at (x y z u s t p q : Int) : x * dd x y z u s t p q + (z - x) * crs s t p q x y = s * dd x y z u s t p q + (p - s) * (-crs x y z u s t) := by unfold dd crs; grind
section
variable {x y z u s t p q : Int} (hd : ¬(x = z ∧ y = u)) (hd' : ¬(s = p ∧ t = q)) (hA : crs x y z u s t = 0) (hB : crs x y z u p q = 0)
section
include hd hA hB
theorem flat_back : crs s t p q x y = 0 ∧ crs s t p q z u = 0 := by
  have hD := len_pos hd
  have e : len x y z u * crs s t p q x y = 0 := by
    unfold crs at hA hB ⊢; unfold len dts; grind
  have e' : len x y z u * crs s t p q z u = 0 := by
    unfold crs at hA hB ⊢; unfold len dts; grind
  exact ⟨((@pos_mul _ (crs s t p q x y) hD).2.2).1 e, ((@pos_mul _ (crs s t p q z u) hD).2.2).1 e'⟩
theorem on0 : onZ s t p q x y ↔ dts x y z u s t * dts x y z u p q ≤ 0 := by
  have hD := len_pos hd
  have e : len x y z u * dts x y s t p q = dts x y z u s t * dts x y z u p q := by
    unfold crs at hA hB; unfold len dts
    grind
  have k := @pos_mul _ (dts x y s t p q) hD
  have f := (flat_back hd hA hB).1
  unfold onZ
  rw [e] at k
  omega
theorem on1 : onZ s t p q z u ↔ (dts x y z u s t - len x y z u) * (dts x y z u p q - len x y z u) ≤ 0 := by
  have hD := len_pos hd
  have e : len x y z u * dts z u s t p q = (dts x y z u s t - len x y z u) * (dts x y z u p q - len x y z u) := by
    unfold crs at hA hB; unfold len dts
    grind
  have k := @pos_mul _ (dts z u s t p q) hD
  have f := (flat_back hd hA hB).2
  unfold onZ
  rw [e] at k
  omega
end
theorem on2 (hd : ¬(x = z ∧ y = u)) (hA : crs x y z u s t = 0) : onZ x y z u s t ↔ 0 ≤ dts x y z u s t ∧ dts x y z u s t ≤ len x y z u := by
  unfold onZ
  rw [on_way hd hA]
  exact ⟨fun h => h.2, fun h => ⟨hA, h⟩⟩
theorem on_a : onZ x y z u x y := by unfold onZ crs dts; constructor <;> simp
theorem on_b : onZ x y z u z u := by
  unfold onZ crs dts
  constructor
  · grind
  · simp
theorem key_a (x y z u : Int) : dts x y z u x y = 0 := by unfold dts; simp
/-- points of one straight line that are as far along are the same -/
theorem key_inj (hd : ¬(x = z ∧ y = u)) {X Y X' Y' : Int} (h1 : crs x y z u X Y = 0) (h2 : crs x y z u X' Y' = 0) (h : dts x y z u X Y = dts x y z u X' Y') : X = X' ∧ Y = Y' := by
  have hD := len_pos hd
  obtain ⟨a1, a2⟩ := along h1
  obtain ⟨b1, b2⟩ := along h2
  rw [h, ← b1] at a1
  rw [h, ← b2] at a2
  have c1 := Int.eq_of_mul_eq_mul_left (by omega) a1
  have c2 := Int.eq_of_mul_eq_mul_left (by omega) a2
  omega
include hd hd' hA hB in
theorem keys_ne : dts x y z u s t ≠ dts x y z u p q := fun h => hd' (key_inj hd hA hB h)
include hA hB in
/-- how far along the other line -/
theorem key_other {X Y : Int} (hX : crs x y z u X Y = 0) : len x y z u * dts s t p q X Y = (dts x y z u p q - dts x y z u s t) * (dts x y z u X Y - dts x y z u s t) := by
  unfold crs at hA hB hX; unfold len dts
  grind
include hd hA hB in
theorem key_order {X Y X' Y' : Int} (h1 : crs x y z u X Y = 0) (h2 : crs x y z u X' Y' = 0) :
    (dts x y z u s t < dts x y z u p q → (dts s t p q X Y ≤ dts s t p q X' Y' ↔ dts x y z u X Y ≤ dts x y z u X' Y')) ∧
    (dts x y z u p q < dts x y z u s t → (dts s t p q X Y ≤ dts s t p q X' Y' ↔ dts x y z u X' Y' ≤ dts x y z u X Y)) := by
  have hD := len_pos hd
  have e1 := key_other hA hB h1
  have e2 := key_other hA hB h2
  have k := @pos_mul _ (dts s t p q X' Y' - dts s t p q X Y) hD
  have e : len x y z u * (dts s t p q X' Y' - dts s t p q X Y) = (dts x y z u p q - dts x y z u s t) * (dts x y z u X' Y' - dts x y z u X Y) := by grind
  rw [e] at k
  clear e e1 e2
  have m := mul_sg (dts x y z u p q - dts x y z u s t) (dts x y z u X' Y' - dts x y z u X Y)
  generalize (dts x y z u p q - dts x y z u s t) * (dts x y z u X' Y' - dts x y z u X Y) = r at *
  constructor <;> intro h <;> omega
end
/-! ### the first and the last of four points, those that are in common -/
section
variable (c : Nat → Bool) (κ : Nat → Int)
def fI : Nat → Nat
  | 0 => 1
  | k + 1 => if (c k && decide (κ k < κ (fI k))) = true then k else fI k
def lI : Nat → Nat
  | 0 => 0
  | k + 1 => if (c k && decide (κ (lI k) < κ k)) = true then k else lI k
/-- as the document goes through them -/
def gI : Nat → Bool × Nat × Nat
  | 0 => (false, 4, 4)
  | k + 1 => if c k = true then (true, if (!(gI k).1 || decide (κ k < κ (gI k).2.1)) = true then k else (gI k).2.1, if (!(gI k).1 || decide (κ (gI k).2.2 < κ k)) = true then k else (gI k).2.2) else gI k
variable {c κ}
theorem fI_lt (k : Nat) (h : k ≤ 4) : fI c κ k < 4 := by
  induction k with
  | zero => simp [fI, lI]
  | succ k ih => unfold fI; split <;> omega
theorem lI_lt (k : Nat) (h : k ≤ 4) : lI c κ k < 4 := by
  induction k with
  | zero => simp [fI, lI]
  | succ k ih => unfold lI; split <;> omega
theorem fI_le (k : Nat) : (∀ j, j < k → c j = true → κ (fI c κ k) ≤ κ j) ∧ κ (fI c κ k) ≤ κ 1 ∧ (fI c κ k = 1 ∨ c (fI c κ k) = true) := by
  induction k with
  | zero => exact ⟨fun j h => absurd h (Nat.not_lt_zero j), Int.le_refl _, .inl rfl⟩
  | succ k ih =>
    obtain ⟨h1, h2, h3⟩ := ih
    unfold fI
    split
    · rename_i h
      rw [Bool.and_eq_true, decide_eq_true_eq] at h
      refine ⟨fun j hj hc => ?_, by omega, .inr h.1⟩
      rcases Nat.lt_succ_iff_lt_or_eq.1 hj with hj | rfl
      · have := h1 j hj hc; omega
      · exact Int.le_refl _
    · rename_i h
      rw [Bool.and_eq_true, decide_eq_true_eq] at h
      refine ⟨fun j hj hc => ?_, h2, h3⟩
      rcases Nat.lt_succ_iff_lt_or_eq.1 hj with hj | rfl
      · exact h1 j hj hc
      · exact Int.not_lt.1 fun hl => h ⟨hc, hl⟩
theorem lI_le (k : Nat) : (∀ j, j < k → c j = true → κ j ≤ κ (lI c κ k)) ∧ κ 0 ≤ κ (lI c κ k) ∧ (lI c κ k = 0 ∨ c (lI c κ k) = true) := by
  induction k with
  | zero => exact ⟨fun j h => absurd h (Nat.not_lt_zero j), Int.le_refl _, .inl rfl⟩
  | succ k ih =>
    obtain ⟨h1, h2, h3⟩ := ih
    unfold lI
    split
    · rename_i h
      rw [Bool.and_eq_true, decide_eq_true_eq] at h
      refine ⟨fun j hj hc => ?_, by omega, .inr h.1⟩
      rcases Nat.lt_succ_iff_lt_or_eq.1 hj with hj | rfl
      · have := h1 j hj hc; omega
      · exact Int.le_refl _
    · rename_i h
      rw [Bool.and_eq_true, decide_eq_true_eq] at h
      refine ⟨fun j hj hc => ?_, h2, h3⟩
      rcases Nat.lt_succ_iff_lt_or_eq.1 hj with hj | rfl
      · exact h1 j hj hc
      · exact Int.not_lt.1 fun hl => h ⟨hc, hl⟩
/-- both ways of going through them tell of points that are as far along -/
theorem gI_same (hc : ∀ j, j < 4 → c j = true → κ 0 ≤ κ j ∧ κ j ≤ κ 1) (k : Nat) (hk : k ≤ 4) :
    ((gI c κ k).1 = false ∧ fI c κ k = 1 ∧ lI c κ k = 0 ∧ ∀ j, j < k → c j = false) ∨ ((gI c κ k).1 = true ∧ κ (gI c κ k).2.1 = κ (fI c κ k) ∧ κ (gI c κ k).2.2 = κ (lI c κ k) ∧ (gI c κ k).2.1 < 4 ∧ (gI c κ k).2.2 < 4) := by
  induction k with
  | zero => exact .inl ⟨rfl, rfl, rfl, fun j h => absurd h (Nat.not_lt_zero j)⟩
  | succ k ih =>
    have ih := ih (by omega)
    unfold gI fI lI
    cases h : c k with
    | false =>
      simp only [Bool.false_and, Bool.false_eq_true, if_false]
      rcases ih with ⟨h1, h2, h3, h4⟩ | h1
      · refine .inl ⟨h1, h2, h3, fun j hj => ?_⟩
        rcases Nat.lt_succ_iff_lt_or_eq.1 hj with hj | rfl
        · exact h4 j hj
        · exact h
      · exact .inr h1
    | true =>
      obtain ⟨g1, g2⟩ := hc k (by omega) h
      right
      simp only [Bool.true_and, if_true]
      rcases ih with ⟨h1, h2, h3, _⟩ | ⟨h1, h2, h3, h4, h5⟩
      · rw [h1, h2, h3]
        simp only [Bool.not_false, Bool.true_or, if_true, decide_eq_true_eq]
        refine ⟨trivial, ?_, ?_, by omega, by omega⟩
        · split <;> omega
        · split <;> omega
      · rw [h1]
        simp only [Bool.not_true, Bool.false_or, decide_eq_true_eq]
        rw [h2, h3]
        refine ⟨trivial, ?_, ?_, ?_, ?_⟩
        · split
          · rfl
          · exact h2
        · split
          · rfl
          · exact h3
        · split <;> omega
        · split <;> omega
end
/-- four points along one straight line: how far along they are, and which of them are in common -/
structure Four (c : Nat → Bool) (κ : Nat → Int) : Prop where
  pos : κ 0 < κ 1
  ne : κ 2 ≠ κ 3
  c0 : c 0 = true ↔ (κ 2 ≤ κ 0 ∧ κ 0 ≤ κ 3) ∨ (κ 3 ≤ κ 0 ∧ κ 0 ≤ κ 2)
  c1 : c 1 = true ↔ (κ 2 ≤ κ 1 ∧ κ 1 ≤ κ 3) ∨ (κ 3 ≤ κ 1 ∧ κ 1 ≤ κ 2)
  c2 : c 2 = true ↔ κ 0 ≤ κ 2 ∧ κ 2 ≤ κ 1
  c3 : c 3 = true ↔ κ 0 ≤ κ 3 ∧ κ 3 ≤ κ 1
section
variable {c : Nat → Bool} {κ : Nat → Int} (H : Four c κ)
theorem lt4 {P : Nat → Prop} (h0 : P 0) (h1 : P 1) (h2 : P 2) (h3 : P 3) : ∀ j, j < 4 → P j
  | 0, _ => h0
  | 1, _ => h1
  | 2, _ => h2
  | 3, _ => h3
  | j + 4, h => absurd h (by omega)
include H
theorem Four.within : ∀ j, j < 4 → c j = true → κ 0 ≤ κ j ∧ κ j ≤ κ 1 := by
  obtain ⟨pos, ne, c0, c1, c2, c3⟩ := H
  refine lt4 ?_ ?_ ?_ ?_ <;> intro h <;> (try rw [c2] at h) <;> (try rw [c3] at h) <;> omega
/-- what is as far along as one in common is in common -/
theorem Four.same : ∀ i, i < 4 → ∀ j, j < 4 → κ i = κ j → c i = c j := by
  obtain ⟨pos, ne, c0, c1, c2, c3⟩ := H
  refine lt4 (lt4 ?_ ?_ ?_ ?_) (lt4 ?_ ?_ ?_ ?_) (lt4 ?_ ?_ ?_ ?_) (lt4 ?_ ?_ ?_ ?_) <;> intro h <;> rw [Bool.eq_iff_iff] <;> (try rw [c0]) <;> (try rw [c1]) <;> (try rw [c2]) <;> (try rw [c3]) <;> omega
theorem Four.first (hs : ∃ j, j < 4 ∧ c j = true) : c (fI c κ 4) = true ∧ ∀ j, j < 4 → c j = true → κ (fI c κ 4) ≤ κ j := by
  obtain ⟨h1, h2, h3⟩ := fI_le (c := c) (κ := κ) 4
  refine ⟨?_, h1⟩
  rcases h3 with h3 | h3
  · obtain ⟨j, hj, hc⟩ := hs
    have h4 := h1 j hj hc
    have h5 := (H.within j hj hc).2
    have h6 := H.same (fI c κ 4) (fI_lt 4 (by omega)) j hj (by rw [h3] at h4 ⊢; omega)
    rw [h6, hc]
  · exact h3
theorem Four.last (hs : ∃ j, j < 4 ∧ c j = true) : c (lI c κ 4) = true ∧ ∀ j, j < 4 → c j = true → κ j ≤ κ (lI c κ 4) := by
  obtain ⟨h1, h2, h3⟩ := lI_le (c := c) (κ := κ) 4
  refine ⟨?_, h1⟩
  rcases h3 with h3 | h3
  · obtain ⟨j, hj, hc⟩ := hs
    have h4 := h1 j hj hc
    have h5 := (H.within j hj hc).1
    have h6 := H.same (lI c κ 4) (lI_lt 4 (by omega)) j hj (by rw [h3] at h4 ⊢; omega)
    rw [h6, hc]
  · exact h3
/-- one point alone in common is an end of both -/
theorem Four.sole {i : Nat} (hi : i < 4) (hc : c i = true) (h : ∀ j, j < 4 → c j = true → κ j = κ i) : (κ i = κ 0 ∨ κ i = κ 1) ∧ (κ i = κ 2 ∨ κ i = κ 3) := by
  have k0 := h 0 (by omega)
  have k1 := h 1 (by omega)
  have k2 := h 2 (by omega)
  have k3 := h 3 (by omega)
  obtain ⟨pos, ne, c0, c1, c2, c3⟩ := H
  rw [c0] at k0
  rw [c1] at k1
  rw [c2] at k2
  rw [c3] at k3
  have : i = 0 ∨ i = 1 ∨ i = 2 ∨ i = 3 := by omega
  rcases this with rfl | rfl | rfl | rfl <;> (try rw [c0] at hc) <;> (try rw [c1] at hc) <;> (try rw [c2] at hc) <;> (try rw [c3] at hc) <;> clear h <;> omega
end
end MeM

/- Structs by their cells: Meet. -/
namespace Go.Proofs.YtacicfmalhhceaaGreatDoor.MeW
open Go.RowKit
open KM
open PtW
def mtc (k : Int) (n : Int) (m : Int) (e : Int) (x : Int) (y : Int) (z : Int) (u : Int) : Array Value := #[.int .i64 k, .int .i64 n, .int .i64 m, .int .i64 e, .int .i64 x, .int .i64 y, .int .i64 z, .int .i64 u]
abbrev mtv (k : Int) (n : Int) (m : Int) (e : Int) (x : Int) (y : Int) (z : Int) (u : Int) : Value := .agg (mtc k n m e x y z u)
set_option maxRecDepth 100000 in
theorem mtc_size (k : Int) (n : Int) (m : Int) (e : Int) (x : Int) (y : Int) (z : Int) (u : Int) : (mtc k n m e x y z u).size = 8 := rfl
set_option maxRecDepth 100000 in
theorem rowMeet (k : Int) (n : Int) (m : Int) (e : Int) (x : Int) (y : Int) (z : Int) (u : Int) : Row Tryz.prog 60 (mtc k n m e x y z u).size := ⟨by kernel_rfl, by kernel_rfl⟩
set_option maxRecDepth 100000 in
instance celMeet (k : Int) (n : Int) (m : Int) (e : Int) (x : Int) (y : Int) (z : Int) (u : Int) : Cel Tryz.prog 60 (mtc k n m e x y z u) := ⟨rowMeet k n m e x y z u, by kernel_rfl⟩
set_option maxRecDepth 100000 in
@[simp] theorem mtc_0 (k : Int) (n : Int) (m : Int) (e : Int) (x : Int) (y : Int) (z : Int) (u : Int) : (mtc k n m e x y z u)[0]? = some (.int .i64 k) := rfl
set_option maxRecDepth 100000 in
@[simp] theorem mtc_0' (k : Int) (n : Int) (m : Int) (e : Int) (x : Int) (y : Int) (z : Int) (u : Int) (h : 0 < (mtc k n m e x y z u).size) : (mtc k n m e x y z u)[0]'h = .int .i64 k := rfl
set_option maxRecDepth 100000 in
instance cellMeet_0 (k : Int) (n : Int) (m : Int) (e : Int) (x : Int) (y : Int) (z : Int) (u : Int) : CellV Tryz.prog 3 (mtc k n m e x y z u) 0 (.int .i64 k) := ⟨⟨by kernel_rfl⟩, rfl⟩
set_option maxRecDepth 100000 in
instance putMeet_0 (k : Int) (n : Int) (m : Int) (e : Int) (x : Int) (y : Int) (z : Int) (u : Int) (k₂ : Int) : PutV Tryz.prog 3 (mtc k n m e x y z u) 0 (.int .i64 k₂) (mtc k₂ n m e x y z u) := ⟨by kernel_rfl, rfl, rfl, by rw [mtc_size]; decide, rfl⟩
set_option maxRecDepth 100000 in
@[simp] theorem mtc_1 (k : Int) (n : Int) (m : Int) (e : Int) (x : Int) (y : Int) (z : Int) (u : Int) : (mtc k n m e x y z u)[1]? = some (.int .i64 n) := rfl
set_option maxRecDepth 100000 in
@[simp] theorem mtc_1' (k : Int) (n : Int) (m : Int) (e : Int) (x : Int) (y : Int) (z : Int) (u : Int) (h : 1 < (mtc k n m e x y z u).size) : (mtc k n m e x y z u)[1]'h = .int .i64 n := rfl
set_option maxRecDepth 100000 in
instance cellMeet_1 (k : Int) (n : Int) (m : Int) (e : Int) (x : Int) (y : Int) (z : Int) (u : Int) : CellV Tryz.prog 3 (mtc k n m e x y z u) 1 (.int .i64 n) := ⟨⟨by kernel_rfl⟩, rfl⟩
set_option maxRecDepth 100000 in
instance putMeet_1 (k : Int) (n : Int) (m : Int) (e : Int) (x : Int) (y : Int) (z : Int) (u : Int) (n₂ : Int) : PutV Tryz.prog 3 (mtc k n m e x y z u) 1 (.int .i64 n₂) (mtc k n₂ m e x y z u) := ⟨by kernel_rfl, rfl, rfl, by rw [mtc_size]; decide, rfl⟩
set_option maxRecDepth 100000 in
@[simp] theorem mtc_2 (k : Int) (n : Int) (m : Int) (e : Int) (x : Int) (y : Int) (z : Int) (u : Int) : (mtc k n m e x y z u)[2]? = some (.int .i64 m) := rfl
set_option maxRecDepth 100000 in
@[simp] theorem mtc_2' (k : Int) (n : Int) (m : Int) (e : Int) (x : Int) (y : Int) (z : Int) (u : Int) (h : 2 < (mtc k n m e x y z u).size) : (mtc k n m e x y z u)[2]'h = .int .i64 m := rfl
set_option maxRecDepth 100000 in
instance cellMeet_2 (k : Int) (n : Int) (m : Int) (e : Int) (x : Int) (y : Int) (z : Int) (u : Int) : CellV Tryz.prog 3 (mtc k n m e x y z u) 2 (.int .i64 m) := ⟨⟨by kernel_rfl⟩, rfl⟩
set_option maxRecDepth 100000 in
instance putMeet_2 (k : Int) (n : Int) (m : Int) (e : Int) (x : Int) (y : Int) (z : Int) (u : Int) (m₂ : Int) : PutV Tryz.prog 3 (mtc k n m e x y z u) 2 (.int .i64 m₂) (mtc k n m₂ e x y z u) := ⟨by kernel_rfl, rfl, rfl, by rw [mtc_size]; decide, rfl⟩
set_option maxRecDepth 100000 in
@[simp] theorem mtc_3 (k : Int) (n : Int) (m : Int) (e : Int) (x : Int) (y : Int) (z : Int) (u : Int) : (mtc k n m e x y z u)[3]? = some (.int .i64 e) := rfl
set_option maxRecDepth 100000 in
@[simp] theorem mtc_3' (k : Int) (n : Int) (m : Int) (e : Int) (x : Int) (y : Int) (z : Int) (u : Int) (h : 3 < (mtc k n m e x y z u).size) : (mtc k n m e x y z u)[3]'h = .int .i64 e := rfl
set_option maxRecDepth 100000 in
instance cellMeet_3 (k : Int) (n : Int) (m : Int) (e : Int) (x : Int) (y : Int) (z : Int) (u : Int) : CellV Tryz.prog 3 (mtc k n m e x y z u) 3 (.int .i64 e) := ⟨⟨by kernel_rfl⟩, rfl⟩
set_option maxRecDepth 100000 in
instance putMeet_3 (k : Int) (n : Int) (m : Int) (e : Int) (x : Int) (y : Int) (z : Int) (u : Int) (e₂ : Int) : PutV Tryz.prog 3 (mtc k n m e x y z u) 3 (.int .i64 e₂) (mtc k n m e₂ x y z u) := ⟨by kernel_rfl, rfl, rfl, by rw [mtc_size]; decide, rfl⟩
set_option maxRecDepth 100000 in
instance partMeet_4Pt (k : Int) (n : Int) (m : Int) (e : Int) (x : Int) (y : Int) (z : Int) (u : Int) : Part Tryz.prog 30 (mtc k n m e x y z u) 4 (ptc x y) := Part.of (rowPt _ _) (by kernel_rfl)
set_option maxRecDepth 100000 in
instance putMeet_4Pt (k : Int) (n : Int) (m : Int) (e : Int) (x : Int) (y : Int) (z : Int) (u : Int) (x₂ : Int) (y₂ : Int) : PutP Tryz.prog 30 (mtc k n m e x y z u) 4 (ptc x₂ y₂) (mtc k n m e x₂ y₂ z u) := ⟨rowPt _ _, by kernel_rfl, by rw [ptc_size]; exact (by decide : 4 + 2 ≤ 8), by kernel_rfl⟩
set_option maxRecDepth 100000 in
@[simp] theorem mtc_4 (k : Int) (n : Int) (m : Int) (e : Int) (x : Int) (y : Int) (z : Int) (u : Int) : (mtc k n m e x y z u)[4]? = some (.int .i64 x) := rfl
set_option maxRecDepth 100000 in
@[simp] theorem mtc_4' (k : Int) (n : Int) (m : Int) (e : Int) (x : Int) (y : Int) (z : Int) (u : Int) (h : 4 < (mtc k n m e x y z u).size) : (mtc k n m e x y z u)[4]'h = .int .i64 x := rfl
set_option maxRecDepth 100000 in
instance cellMeet_4 (k : Int) (n : Int) (m : Int) (e : Int) (x : Int) (y : Int) (z : Int) (u : Int) : CellV Tryz.prog 3 (mtc k n m e x y z u) 4 (.int .i64 x) := ⟨⟨by kernel_rfl⟩, rfl⟩
set_option maxRecDepth 100000 in
instance putMeet_4 (k : Int) (n : Int) (m : Int) (e : Int) (x : Int) (y : Int) (z : Int) (u : Int) (x₂ : Int) : PutV Tryz.prog 3 (mtc k n m e x y z u) 4 (.int .i64 x₂) (mtc k n m e x₂ y z u) := ⟨by kernel_rfl, rfl, rfl, by rw [mtc_size]; decide, rfl⟩
set_option maxRecDepth 100000 in
@[simp] theorem mtc_5 (k : Int) (n : Int) (m : Int) (e : Int) (x : Int) (y : Int) (z : Int) (u : Int) : (mtc k n m e x y z u)[5]? = some (.int .i64 y) := rfl
set_option maxRecDepth 100000 in
@[simp] theorem mtc_5' (k : Int) (n : Int) (m : Int) (e : Int) (x : Int) (y : Int) (z : Int) (u : Int) (h : 5 < (mtc k n m e x y z u).size) : (mtc k n m e x y z u)[5]'h = .int .i64 y := rfl
set_option maxRecDepth 100000 in
instance cellMeet_5 (k : Int) (n : Int) (m : Int) (e : Int) (x : Int) (y : Int) (z : Int) (u : Int) : CellV Tryz.prog 3 (mtc k n m e x y z u) 5 (.int .i64 y) := ⟨⟨by kernel_rfl⟩, rfl⟩
set_option maxRecDepth 100000 in
instance putMeet_5 (k : Int) (n : Int) (m : Int) (e : Int) (x : Int) (y : Int) (z : Int) (u : Int) (y₂ : Int) : PutV Tryz.prog 3 (mtc k n m e x y z u) 5 (.int .i64 y₂) (mtc k n m e x y₂ z u) := ⟨by kernel_rfl, rfl, rfl, by rw [mtc_size]; decide, rfl⟩
set_option maxRecDepth 100000 in
instance partMeet_6Pt (k : Int) (n : Int) (m : Int) (e : Int) (x : Int) (y : Int) (z : Int) (u : Int) : Part Tryz.prog 30 (mtc k n m e x y z u) 6 (ptc z u) := Part.of (rowPt _ _) (by kernel_rfl)
set_option maxRecDepth 100000 in
instance putMeet_6Pt (k : Int) (n : Int) (m : Int) (e : Int) (x : Int) (y : Int) (z : Int) (u : Int) (z₂ : Int) (u₂ : Int) : PutP Tryz.prog 30 (mtc k n m e x y z u) 6 (ptc z₂ u₂) (mtc k n m e x y z₂ u₂) := ⟨rowPt _ _, by kernel_rfl, by rw [ptc_size]; exact (by decide : 6 + 2 ≤ 8), by kernel_rfl⟩
set_option maxRecDepth 100000 in
@[simp] theorem mtc_6 (k : Int) (n : Int) (m : Int) (e : Int) (x : Int) (y : Int) (z : Int) (u : Int) : (mtc k n m e x y z u)[6]? = some (.int .i64 z) := rfl
set_option maxRecDepth 100000 in
@[simp] theorem mtc_6' (k : Int) (n : Int) (m : Int) (e : Int) (x : Int) (y : Int) (z : Int) (u : Int) (h : 6 < (mtc k n m e x y z u).size) : (mtc k n m e x y z u)[6]'h = .int .i64 z := rfl
set_option maxRecDepth 100000 in
instance cellMeet_6 (k : Int) (n : Int) (m : Int) (e : Int) (x : Int) (y : Int) (z : Int) (u : Int) : CellV Tryz.prog 3 (mtc k n m e x y z u) 6 (.int .i64 z) := ⟨⟨by kernel_rfl⟩, rfl⟩
set_option maxRecDepth 100000 in
instance putMeet_6 (k : Int) (n : Int) (m : Int) (e : Int) (x : Int) (y : Int) (z : Int) (u : Int) (z₂ : Int) : PutV Tryz.prog 3 (mtc k n m e x y z u) 6 (.int .i64 z₂) (mtc k n m e x y z₂ u) := ⟨by kernel_rfl, rfl, rfl, by rw [mtc_size]; decide, rfl⟩
set_option maxRecDepth 100000 in
@[simp] theorem mtc_7 (k : Int) (n : Int) (m : Int) (e : Int) (x : Int) (y : Int) (z : Int) (u : Int) : (mtc k n m e x y z u)[7]? = some (.int .i64 u) := rfl
set_option maxRecDepth 100000 in
@[simp] theorem mtc_7' (k : Int) (n : Int) (m : Int) (e : Int) (x : Int) (y : Int) (z : Int) (u : Int) (h : 7 < (mtc k n m e x y z u).size) : (mtc k n m e x y z u)[7]'h = .int .i64 u := rfl
set_option maxRecDepth 100000 in
instance cellMeet_7 (k : Int) (n : Int) (m : Int) (e : Int) (x : Int) (y : Int) (z : Int) (u : Int) : CellV Tryz.prog 3 (mtc k n m e x y z u) 7 (.int .i64 u) := ⟨⟨by kernel_rfl⟩, rfl⟩
set_option maxRecDepth 100000 in
instance putMeet_7 (k : Int) (n : Int) (m : Int) (e : Int) (x : Int) (y : Int) (z : Int) (u : Int) (u₂ : Int) : PutV Tryz.prog 3 (mtc k n m e x y z u) 7 (.int .i64 u₂) (mtc k n m e x y z u₂) := ⟨by kernel_rfl, rfl, rfl, by rw [mtc_size]; decide, rfl⟩
set_option maxRecDepth 100000 in
instance putMeet (k : Int) (n : Int) (m : Int) (e : Int) (x : Int) (y : Int) (z : Int) (u : Int) (k' : Int) (n' : Int) (m' : Int) (e' : Int) (x' : Int) (y' : Int) (z' : Int) (u' : Int) : PutP Tryz.prog 60 (mtc k n m e x y z u) 0 (mtc k' n' m' e' x' y' z' u') (mtc k' n' m' e' x' y' z' u') := PutP.of inferInstance rfl
set_option maxRecDepth 100000 in
instance zerMeet : ZeroC Tryz.prog 60 (mtc 0 0 0 0 0 0 0 0) := ⟨by unfold KM.Zero; kernel_rfl⟩
section
variable {ops : Array Oper} {Q : Exit → Act → World → Prop} {rest : List Oper} {a : Act} {w : World} {d₀ : Option Tmp} {ty : TypeId} {ps : String} {af : Array Edge} {gd : Option (Nat × Bool)} {x0 : Operand} {x1 : Operand} {x2 : Operand} {x3 : Operand} {x4 : Operand} {x5 : Operand} {k : Int} {n : Int} {m : Int} {e : Int} {x : Int} {y : Int} {z : Int} {u : Int}
set_option maxRecDepth 100000 in
theorem exec_Meet (h0 : a.eval x0 = .int .i64 k) (h1 : a.eval x1 = .int .i64 n) (h2 : a.eval x2 = .int .i64 m) (h3 : a.eval x3 = .int .i64 e) (h4 : a.eval x4 = .agg (ptc x y)) (h5 : a.eval x5 = .agg (ptc z u)) (w : World) : (execOp a.eval ⟨d₀, .build 60 #[(0, x0), (1, x1), (2, x2), (3, x3), (4, x4), (5, x5)], ty, ps, af, gd⟩).run Tryz.prog w = .ok (.value (.agg (mtc k n m e x y z u))) w := exec_build (by simp only [List.map_toArray, List.map_cons, List.map_nil, h0, h1, h2, h3, h4, h5]; kernel_rfl) w
set_option maxRecDepth 100000 in
theorem ls_Meet (h0 : a.eval x0 = .int .i64 k) (h1 : a.eval x1 = .int .i64 n) (h2 : a.eval x2 = .int .i64 m) (h3 : a.eval x3 = .int .i64 e) (h4 : a.eval x4 = .agg (ptc x y)) (h5 : a.eval x5 = .agg (ptc z u)) (h : wpList Tryz.prog ops Q rest (a.put d₀ (.agg (mtc k n m e x y z u))) w) : wpList Tryz.prog ops Q (⟨d₀, .build 60 #[(0, x0), (1, x1), (2, x2), (3, x3), (4, x4), (5, x5)], ty, ps, af, none⟩ :: rest) a w := ls_value (exec_Meet h0 h1 h2 h3 h4 h5 w) h
set_option maxRecDepth 100000 in
theorem lsg_Meet (hw : Region.wanted ⟨d₀, .build 60 #[(0, x0), (1, x1), (2, x2), (3, x3), (4, x4), (5, x5)], ty, ps, af, gd⟩ (yielded ops a.tmps) = true) (h0 : a.eval x0 = .int .i64 k) (h1 : a.eval x1 = .int .i64 n) (h2 : a.eval x2 = .int .i64 m) (h3 : a.eval x3 = .int .i64 e) (h4 : a.eval x4 = .agg (ptc x y)) (h5 : a.eval x5 = .agg (ptc z u)) (h : wpList Tryz.prog ops Q rest (a.put d₀ (.agg (mtc k n m e x y z u))) w) : wpList Tryz.prog ops Q (⟨d₀, .build 60 #[(0, x0), (1, x1), (2, x2), (3, x3), (4, x4), (5, x5)], ty, ps, af, gd⟩ :: rest) a w := lsg_value hw (exec_Meet h0 h1 h2 h3 h4 h5 w) h
set_option maxRecDepth 100000 in
theorem qq_Meet {C : World → Prop} {TQ : Act → Prop} (h0 : a.eval x0 = .int .i64 k) (h1 : a.eval x1 = .int .i64 n) (h2 : a.eval x2 = .int .i64 m) (h3 : a.eval x3 = .int .i64 e) (h4 : a.eval x4 = .agg (ptc x y)) (h5 : a.eval x5 = .agg (ptc z u)) (hw : Region.wanted ⟨d₀, .build 60 #[(0, x0), (1, x1), (2, x2), (3, x3), (4, x4), (5, x5)], ty, ps, af, gd⟩ (yielded ops a.tmps) = true) (h : QQ Tryz.prog ops C TQ rest (a.put d₀ (.agg (mtc k n m e x y z u)))) : QQ Tryz.prog ops C TQ (⟨d₀, .build 60 #[(0, x0), (1, x1), (2, x2), (3, x3), (4, x4), (5, x5)], ty, ps, af, gd⟩ :: rest) a := qq_value (fun w => exec_Meet h0 h1 h2 h3 h4 h5 w) hw h
set_option maxRecDepth 100000 in
theorem mm_Meet {W : World} {L Lc : List Ent} {r₀ : List St} (h0 : a.eval x0 = .int .i64 k) (h1 : a.eval x1 = .int .i64 n) (h2 : a.eval x2 = .int .i64 m) (h3 : a.eval x3 = .int .i64 e) (h4 : a.eval x4 = .agg (ptc x y)) (h5 : a.eval x5 = .agg (ptc z u)) (h : MM Tryz.prog Q W Lc r₀ (a.put d₀ (.agg (mtc k n m e x y z u))) L) : MM Tryz.prog Q W Lc (.take ⟨d₀, .build 60 #[(0, x0), (1, x1), (2, x2), (3, x3), (4, x4), (5, x5)], ty, ps, af, none⟩ :: r₀) a L := mm_value (fun w => exec_Meet h0 h1 h2 h3 h4 h5 w) h
set_option maxRecDepth 100000 in
theorem exec_Meet_  (w : World) : (execOp a.eval ⟨d₀, .build 60 #[], ty, ps, af, gd⟩).run Tryz.prog w = .ok (.value (.agg (mtc 0 0 0 0 0 0 0 0))) w := exec_build (by kernel_rfl) w
set_option maxRecDepth 100000 in
theorem ls_Meet_  (h : wpList Tryz.prog ops Q rest (a.put d₀ (.agg (mtc 0 0 0 0 0 0 0 0))) w) : wpList Tryz.prog ops Q (⟨d₀, .build 60 #[], ty, ps, af, none⟩ :: rest) a w := ls_value (exec_Meet_  w) h
set_option maxRecDepth 100000 in
theorem lsg_Meet_ (hw : Region.wanted ⟨d₀, .build 60 #[], ty, ps, af, gd⟩ (yielded ops a.tmps) = true)  (h : wpList Tryz.prog ops Q rest (a.put d₀ (.agg (mtc 0 0 0 0 0 0 0 0))) w) : wpList Tryz.prog ops Q (⟨d₀, .build 60 #[], ty, ps, af, gd⟩ :: rest) a w := lsg_value hw (exec_Meet_  w) h
set_option maxRecDepth 100000 in
theorem qq_Meet_ {C : World → Prop} {TQ : Act → Prop}  (hw : Region.wanted ⟨d₀, .build 60 #[], ty, ps, af, gd⟩ (yielded ops a.tmps) = true) (h : QQ Tryz.prog ops C TQ rest (a.put d₀ (.agg (mtc 0 0 0 0 0 0 0 0)))) : QQ Tryz.prog ops C TQ (⟨d₀, .build 60 #[], ty, ps, af, gd⟩ :: rest) a := qq_value (fun w => exec_Meet_  w) hw h
set_option maxRecDepth 100000 in
theorem mm_Meet_ {W : World} {L Lc : List Ent} {r₀ : List St}  (h : MM Tryz.prog Q W Lc r₀ (a.put d₀ (.agg (mtc 0 0 0 0 0 0 0 0))) L) : MM Tryz.prog Q W Lc (.take ⟨d₀, .build 60 #[], ty, ps, af, none⟩ :: r₀) a L := mm_value (fun w => exec_Meet_  w) h
set_option maxRecDepth 100000 in
theorem exec_Meet_045 (h0 : a.eval x0 = .int .i64 k) (h4 : a.eval x4 = .agg (ptc x y)) (h5 : a.eval x5 = .agg (ptc z u)) (w : World) : (execOp a.eval ⟨d₀, .build 60 #[(0, x0), (4, x4), (5, x5)], ty, ps, af, gd⟩).run Tryz.prog w = .ok (.value (.agg (mtc k 0 0 0 x y z u))) w := exec_build (by simp only [List.map_toArray, List.map_cons, List.map_nil, h0, h4, h5]; kernel_rfl) w
set_option maxRecDepth 100000 in
theorem ls_Meet_045 (h0 : a.eval x0 = .int .i64 k) (h4 : a.eval x4 = .agg (ptc x y)) (h5 : a.eval x5 = .agg (ptc z u)) (h : wpList Tryz.prog ops Q rest (a.put d₀ (.agg (mtc k 0 0 0 x y z u))) w) : wpList Tryz.prog ops Q (⟨d₀, .build 60 #[(0, x0), (4, x4), (5, x5)], ty, ps, af, none⟩ :: rest) a w := ls_value (exec_Meet_045 h0 h4 h5 w) h
set_option maxRecDepth 100000 in
theorem lsg_Meet_045 (hw : Region.wanted ⟨d₀, .build 60 #[(0, x0), (4, x4), (5, x5)], ty, ps, af, gd⟩ (yielded ops a.tmps) = true) (h0 : a.eval x0 = .int .i64 k) (h4 : a.eval x4 = .agg (ptc x y)) (h5 : a.eval x5 = .agg (ptc z u)) (h : wpList Tryz.prog ops Q rest (a.put d₀ (.agg (mtc k 0 0 0 x y z u))) w) : wpList Tryz.prog ops Q (⟨d₀, .build 60 #[(0, x0), (4, x4), (5, x5)], ty, ps, af, gd⟩ :: rest) a w := lsg_value hw (exec_Meet_045 h0 h4 h5 w) h
set_option maxRecDepth 100000 in
theorem qq_Meet_045 {C : World → Prop} {TQ : Act → Prop} (h0 : a.eval x0 = .int .i64 k) (h4 : a.eval x4 = .agg (ptc x y)) (h5 : a.eval x5 = .agg (ptc z u)) (hw : Region.wanted ⟨d₀, .build 60 #[(0, x0), (4, x4), (5, x5)], ty, ps, af, gd⟩ (yielded ops a.tmps) = true) (h : QQ Tryz.prog ops C TQ rest (a.put d₀ (.agg (mtc k 0 0 0 x y z u)))) : QQ Tryz.prog ops C TQ (⟨d₀, .build 60 #[(0, x0), (4, x4), (5, x5)], ty, ps, af, gd⟩ :: rest) a := qq_value (fun w => exec_Meet_045 h0 h4 h5 w) hw h
set_option maxRecDepth 100000 in
theorem mm_Meet_045 {W : World} {L Lc : List Ent} {r₀ : List St} (h0 : a.eval x0 = .int .i64 k) (h4 : a.eval x4 = .agg (ptc x y)) (h5 : a.eval x5 = .agg (ptc z u)) (h : MM Tryz.prog Q W Lc r₀ (a.put d₀ (.agg (mtc k 0 0 0 x y z u))) L) : MM Tryz.prog Q W Lc (.take ⟨d₀, .build 60 #[(0, x0), (4, x4), (5, x5)], ty, ps, af, none⟩ :: r₀) a L := mm_value (fun w => exec_Meet_045 h0 h4 h5 w) h
set_option maxRecDepth 100000 in
theorem exec_Meet_03 (h0 : a.eval x0 = .int .i64 k) (h3 : a.eval x3 = .int .i64 e) (w : World) : (execOp a.eval ⟨d₀, .build 60 #[(0, x0), (3, x3)], ty, ps, af, gd⟩).run Tryz.prog w = .ok (.value (.agg (mtc k 0 0 e 0 0 0 0))) w := exec_build (by simp only [List.map_toArray, List.map_cons, List.map_nil, h0, h3]; kernel_rfl) w
set_option maxRecDepth 100000 in
theorem ls_Meet_03 (h0 : a.eval x0 = .int .i64 k) (h3 : a.eval x3 = .int .i64 e) (h : wpList Tryz.prog ops Q rest (a.put d₀ (.agg (mtc k 0 0 e 0 0 0 0))) w) : wpList Tryz.prog ops Q (⟨d₀, .build 60 #[(0, x0), (3, x3)], ty, ps, af, none⟩ :: rest) a w := ls_value (exec_Meet_03 h0 h3 w) h
set_option maxRecDepth 100000 in
theorem lsg_Meet_03 (hw : Region.wanted ⟨d₀, .build 60 #[(0, x0), (3, x3)], ty, ps, af, gd⟩ (yielded ops a.tmps) = true) (h0 : a.eval x0 = .int .i64 k) (h3 : a.eval x3 = .int .i64 e) (h : wpList Tryz.prog ops Q rest (a.put d₀ (.agg (mtc k 0 0 e 0 0 0 0))) w) : wpList Tryz.prog ops Q (⟨d₀, .build 60 #[(0, x0), (3, x3)], ty, ps, af, gd⟩ :: rest) a w := lsg_value hw (exec_Meet_03 h0 h3 w) h
set_option maxRecDepth 100000 in
theorem qq_Meet_03 {C : World → Prop} {TQ : Act → Prop} (h0 : a.eval x0 = .int .i64 k) (h3 : a.eval x3 = .int .i64 e) (hw : Region.wanted ⟨d₀, .build 60 #[(0, x0), (3, x3)], ty, ps, af, gd⟩ (yielded ops a.tmps) = true) (h : QQ Tryz.prog ops C TQ rest (a.put d₀ (.agg (mtc k 0 0 e 0 0 0 0)))) : QQ Tryz.prog ops C TQ (⟨d₀, .build 60 #[(0, x0), (3, x3)], ty, ps, af, gd⟩ :: rest) a := qq_value (fun w => exec_Meet_03 h0 h3 w) hw h
set_option maxRecDepth 100000 in
theorem mm_Meet_03 {W : World} {L Lc : List Ent} {r₀ : List St} (h0 : a.eval x0 = .int .i64 k) (h3 : a.eval x3 = .int .i64 e) (h : MM Tryz.prog Q W Lc r₀ (a.put d₀ (.agg (mtc k 0 0 e 0 0 0 0))) L) : MM Tryz.prog Q W Lc (.take ⟨d₀, .build 60 #[(0, x0), (3, x3)], ty, ps, af, none⟩ :: r₀) a L := mm_value (fun w => exec_Meet_03 h0 h3 w) h
set_option maxRecDepth 100000 in
theorem exec_Meet_0123 (h0 : a.eval x0 = .int .i64 k) (h1 : a.eval x1 = .int .i64 n) (h2 : a.eval x2 = .int .i64 m) (h3 : a.eval x3 = .int .i64 e) (w : World) : (execOp a.eval ⟨d₀, .build 60 #[(0, x0), (1, x1), (2, x2), (3, x3)], ty, ps, af, gd⟩).run Tryz.prog w = .ok (.value (.agg (mtc k n m e 0 0 0 0))) w := exec_build (by simp only [List.map_toArray, List.map_cons, List.map_nil, h0, h1, h2, h3]; kernel_rfl) w
set_option maxRecDepth 100000 in
theorem ls_Meet_0123 (h0 : a.eval x0 = .int .i64 k) (h1 : a.eval x1 = .int .i64 n) (h2 : a.eval x2 = .int .i64 m) (h3 : a.eval x3 = .int .i64 e) (h : wpList Tryz.prog ops Q rest (a.put d₀ (.agg (mtc k n m e 0 0 0 0))) w) : wpList Tryz.prog ops Q (⟨d₀, .build 60 #[(0, x0), (1, x1), (2, x2), (3, x3)], ty, ps, af, none⟩ :: rest) a w := ls_value (exec_Meet_0123 h0 h1 h2 h3 w) h
set_option maxRecDepth 100000 in
theorem lsg_Meet_0123 (hw : Region.wanted ⟨d₀, .build 60 #[(0, x0), (1, x1), (2, x2), (3, x3)], ty, ps, af, gd⟩ (yielded ops a.tmps) = true) (h0 : a.eval x0 = .int .i64 k) (h1 : a.eval x1 = .int .i64 n) (h2 : a.eval x2 = .int .i64 m) (h3 : a.eval x3 = .int .i64 e) (h : wpList Tryz.prog ops Q rest (a.put d₀ (.agg (mtc k n m e 0 0 0 0))) w) : wpList Tryz.prog ops Q (⟨d₀, .build 60 #[(0, x0), (1, x1), (2, x2), (3, x3)], ty, ps, af, gd⟩ :: rest) a w := lsg_value hw (exec_Meet_0123 h0 h1 h2 h3 w) h
set_option maxRecDepth 100000 in
theorem qq_Meet_0123 {C : World → Prop} {TQ : Act → Prop} (h0 : a.eval x0 = .int .i64 k) (h1 : a.eval x1 = .int .i64 n) (h2 : a.eval x2 = .int .i64 m) (h3 : a.eval x3 = .int .i64 e) (hw : Region.wanted ⟨d₀, .build 60 #[(0, x0), (1, x1), (2, x2), (3, x3)], ty, ps, af, gd⟩ (yielded ops a.tmps) = true) (h : QQ Tryz.prog ops C TQ rest (a.put d₀ (.agg (mtc k n m e 0 0 0 0)))) : QQ Tryz.prog ops C TQ (⟨d₀, .build 60 #[(0, x0), (1, x1), (2, x2), (3, x3)], ty, ps, af, gd⟩ :: rest) a := qq_value (fun w => exec_Meet_0123 h0 h1 h2 h3 w) hw h
set_option maxRecDepth 100000 in
theorem mm_Meet_0123 {W : World} {L Lc : List Ent} {r₀ : List St} (h0 : a.eval x0 = .int .i64 k) (h1 : a.eval x1 = .int .i64 n) (h2 : a.eval x2 = .int .i64 m) (h3 : a.eval x3 = .int .i64 e) (h : MM Tryz.prog Q W Lc r₀ (a.put d₀ (.agg (mtc k n m e 0 0 0 0))) L) : MM Tryz.prog Q W Lc (.take ⟨d₀, .build 60 #[(0, x0), (1, x1), (2, x2), (3, x3)], ty, ps, af, none⟩ :: r₀) a L := mm_value (fun w => exec_Meet_0123 h0 h1 h2 h3 w) h
end
set_option maxRecDepth 100000 in
@[simp] theorem fieldMeet_0 (k : Int) (n : Int) (m : Int) (e : Int) (x : Int) (y : Int) (z : Int) (u : Int) (w : World) : (Instr.field 60 (.agg (mtc k n m e x y z u)) 0).run Tryz.prog w = .ok (.int .i64 k) w := run_field (by kernel_rfl) (tf := 3) (o := 0) (by kernel_rfl) (fun w => run_part_plain w (by kernel_rfl) rfl) w
set_option maxRecDepth 100000 in
@[simp] theorem fieldMeet_1 (k : Int) (n : Int) (m : Int) (e : Int) (x : Int) (y : Int) (z : Int) (u : Int) (w : World) : (Instr.field 60 (.agg (mtc k n m e x y z u)) 1).run Tryz.prog w = .ok (.int .i64 n) w := run_field (by kernel_rfl) (tf := 3) (o := 1) (by kernel_rfl) (fun w => run_part_plain w (by kernel_rfl) rfl) w
set_option maxRecDepth 100000 in
@[simp] theorem fieldMeet_2 (k : Int) (n : Int) (m : Int) (e : Int) (x : Int) (y : Int) (z : Int) (u : Int) (w : World) : (Instr.field 60 (.agg (mtc k n m e x y z u)) 2).run Tryz.prog w = .ok (.int .i64 m) w := run_field (by kernel_rfl) (tf := 3) (o := 2) (by kernel_rfl) (fun w => run_part_plain w (by kernel_rfl) rfl) w
set_option maxRecDepth 100000 in
@[simp] theorem fieldMeet_3 (k : Int) (n : Int) (m : Int) (e : Int) (x : Int) (y : Int) (z : Int) (u : Int) (w : World) : (Instr.field 60 (.agg (mtc k n m e x y z u)) 3).run Tryz.prog w = .ok (.int .i64 e) w := run_field (by kernel_rfl) (tf := 3) (o := 3) (by kernel_rfl) (fun w => run_part_plain w (by kernel_rfl) rfl) w
set_option maxRecDepth 100000 in
@[simp] theorem fieldMeet_4 (k : Int) (n : Int) (m : Int) (e : Int) (x : Int) (y : Int) (z : Int) (u : Int) (w : World) : (Instr.field 60 (.agg (mtc k n m e x y z u)) 4).run Tryz.prog w = .ok (.agg (ptc x y)) w := run_field (by kernel_rfl) (tf := 30) (o := 4) (by kernel_rfl) (fun w => part_row (by first | exact rowI _ _ | (rw [cells_size]; exact rowW) | exact rowPt _ _) (by kernel_rfl) w) w
set_option maxRecDepth 100000 in
@[simp] theorem fieldMeet_5 (k : Int) (n : Int) (m : Int) (e : Int) (x : Int) (y : Int) (z : Int) (u : Int) (w : World) : (Instr.field 60 (.agg (mtc k n m e x y z u)) 5).run Tryz.prog w = .ok (.agg (ptc z u)) w := run_field (by kernel_rfl) (tf := 30) (o := 6) (by kernel_rfl) (fun w => part_row (by first | exact rowI _ _ | (rw [cells_size]; exact rowW) | exact rowPt _ _) (by kernel_rfl) w) w
set_option maxRecDepth 100000 in
theorem eqlMeet_d (k₀ : Nat) (k : Int) (n : Int) (m : Int) (e : Int) (x : Int) (y : Int) (z : Int) (u : Int) (k' : Int) (n' : Int) (m' : Int) (e' : Int) (x' : Int) (y' : Int) (z' : Int) (u' : Int)  (w : World) : (Op.equalIn (k₀ + 3) 60 (.agg (mtc k n m e x y z u)) (.agg (mtc k' n' m' e' x' y' z' u'))).run Tryz.prog w = .ok (k == k' && (n == n' && (m == m' && (e == e' && ((x == x' && y == y') && (z == z' && u == u')))))) w :=
  eqStruct [(3, 0), (3, 1), (3, 2), (3, 3), (30, 4), (30, 6)] [k == k', n == n', m == m', e == e', (x == x' && y == y'), (z == z' && u == u')] (by kernel_rfl) (by kernel_rfl) (by kernel_rfl) ⟨⟨.int .i64 k, .int .i64 k', run_part_plain w (by kernel_rfl) rfl, run_part_plain w (by kernel_rfl) rfl, run_equalIn_int w (k₀ + 1) _ .i64 .i64 _ _ Tryz.underlying3⟩, ⟨.int .i64 n, .int .i64 n', run_part_plain w (by kernel_rfl) rfl, run_part_plain w (by kernel_rfl) rfl, run_equalIn_int w (k₀ + 1) _ .i64 .i64 _ _ Tryz.underlying3⟩, ⟨.int .i64 m, .int .i64 m', run_part_plain w (by kernel_rfl) rfl, run_part_plain w (by kernel_rfl) rfl, run_equalIn_int w (k₀ + 1) _ .i64 .i64 _ _ Tryz.underlying3⟩, ⟨.int .i64 e, .int .i64 e', run_part_plain w (by kernel_rfl) rfl, run_part_plain w (by kernel_rfl) rfl, run_equalIn_int w (k₀ + 1) _ .i64 .i64 _ _ Tryz.underlying3⟩, ⟨.agg (ptc x y), .agg (ptc x' y'), part_row (by first | exact rowI _ _ | (rw [cells_size]; exact rowW) | exact rowPt _ _) (by kernel_rfl) w, part_row (by first | exact rowI _ _ | (rw [cells_size]; exact rowW) | exact rowPt _ _) (by kernel_rfl) w, eqlPt_d (k₀) x y x' y'  w⟩, ⟨.agg (ptc z u), .agg (ptc z' u'), part_row (by first | exact rowI _ _ | (rw [cells_size]; exact rowW) | exact rowPt _ _) (by kernel_rfl) w, part_row (by first | exact rowI _ _ | (rw [cells_size]; exact rowW) | exact rowPt _ _) (by kernel_rfl) w, eqlPt_d (k₀) z u z' u'  w⟩, trivial⟩
set_option maxRecDepth 100000 in
theorem eqlMeet (k : Int) (n : Int) (m : Int) (e : Int) (x : Int) (y : Int) (z : Int) (u : Int) (k' : Int) (n' : Int) (m' : Int) (e' : Int) (x' : Int) (y' : Int) (z' : Int) (u' : Int)  (w : World) : (Op.equalIn 10000 60 (.agg (mtc k n m e x y z u)) (.agg (mtc k' n' m' e' x' y' z' u'))).run Tryz.prog w = .ok (k == k' && (n == n' && (m == m' && (e == e' && ((x == x' && y == y') && (z == z' && u == u')))))) w := at_depth (P := fun k => (Op.equalIn k _ _ _).run _ w = _) (show 10000 = 9997 + 3 from rfl) (eqlMeet_d 9997 k n m e x y z u k' n' m' e' x' y' z' u'  w)
set_option maxRecDepth 100000 in
theorem selfMeet_d (k₀ : Nat) (k : Int) (n : Int) (m : Int) (e : Int) (x : Int) (y : Int) (z : Int) (u : Int) (w : World) : (Op.equalIn (k₀ + 3) 60 (.agg (mtc k n m e x y z u)) (.agg (mtc k n m e x y z u))).run Tryz.prog w = .ok true w :=
  eqStruct [(3, 0), (3, 1), (3, 2), (3, 3), (30, 4), (30, 6)] [true, true, true, true, true, true] (by kernel_rfl) (by kernel_rfl) (by kernel_rfl) ⟨⟨.int .i64 k, .int .i64 k, run_part_plain w (by kernel_rfl) rfl, run_part_plain w (by kernel_rfl) rfl, (run_equalIn_int w (k₀ + 1) _ .i64 .i64 _ _ Tryz.underlying3).trans (by simp)⟩, ⟨.int .i64 n, .int .i64 n, run_part_plain w (by kernel_rfl) rfl, run_part_plain w (by kernel_rfl) rfl, (run_equalIn_int w (k₀ + 1) _ .i64 .i64 _ _ Tryz.underlying3).trans (by simp)⟩, ⟨.int .i64 m, .int .i64 m, run_part_plain w (by kernel_rfl) rfl, run_part_plain w (by kernel_rfl) rfl, (run_equalIn_int w (k₀ + 1) _ .i64 .i64 _ _ Tryz.underlying3).trans (by simp)⟩, ⟨.int .i64 e, .int .i64 e, run_part_plain w (by kernel_rfl) rfl, run_part_plain w (by kernel_rfl) rfl, (run_equalIn_int w (k₀ + 1) _ .i64 .i64 _ _ Tryz.underlying3).trans (by simp)⟩, ⟨.agg (ptc x y), .agg (ptc x y), part_row (by first | exact rowI _ _ | (rw [cells_size]; exact rowW) | exact rowPt _ _) (by kernel_rfl) w, part_row (by first | exact rowI _ _ | (rw [cells_size]; exact rowW) | exact rowPt _ _) (by kernel_rfl) w, (selfPt_d (k₀) x y w).trans (by simp)⟩, ⟨.agg (ptc z u), .agg (ptc z u), part_row (by first | exact rowI _ _ | (rw [cells_size]; exact rowW) | exact rowPt _ _) (by kernel_rfl) w, part_row (by first | exact rowI _ _ | (rw [cells_size]; exact rowW) | exact rowPt _ _) (by kernel_rfl) w, (selfPt_d (k₀) z u w).trans (by simp)⟩, trivial⟩
set_option maxRecDepth 100000 in
@[simp] theorem selfMeet (k : Int) (n : Int) (m : Int) (e : Int) (x : Int) (y : Int) (z : Int) (u : Int) (w : World) : (Op.equalIn 10000 60 (.agg (mtc k n m e x y z u)) (.agg (mtc k n m e x y z u))).run Tryz.prog w = .ok true w := at_depth (P := fun k => (Op.equalIn k _ _ _).run _ w = _) (show 10000 = 9997 + 3 from rfl) (selfMeet_d 9997 k n m e x y z u w)
end Go.Proofs.YtacicfmalhhceaaGreatDoor.MeW

/- Structs by their cells: Meet. -/
namespace Go.Proofs.YtacicfmalhhceaaGreatDoor.MeW
open Go.RowKit
open KM
open PtW
set_option maxRecDepth 100000 in
set_option maxRecDepth 100000 in
theorem readMeet {H : Type} {enc : TypeId × Value → H} {w₀ : World} {base : Nat} {sp : Nat → Bool} {held : Bool} {l : List Value} (h : KM.Read Tryz.prog enc w₀ base sp held 60 l) : ∃ (k : Int) (n : Int) (m : Int) (e : Int) (x : Int) (y : Int) (z : Int) (u : Int), (-9223372036854775808 ≤ k ∧ k ≤ 9223372036854775807) ∧ (-9223372036854775808 ≤ n ∧ n ≤ 9223372036854775807) ∧ (-9223372036854775808 ≤ m ∧ m ≤ 9223372036854775807) ∧ (-9223372036854775808 ≤ e ∧ e ≤ 9223372036854775807) ∧ (-9223372036854775808 ≤ x ∧ x ≤ 9223372036854775807) ∧ (-9223372036854775808 ≤ y ∧ y ≤ 9223372036854775807) ∧ (-9223372036854775808 ≤ z ∧ z ≤ 9223372036854775807) ∧ (-9223372036854775808 ≤ u ∧ u ≤ 9223372036854775807) ∧ l = (mtc k n m e x y z u).toList := by
  obtain ⟨hl, hs⟩ := KM.read_struct [(3, 0, 1), (3, 1, 1), (3, 2, 1), (3, 3, 1), (30, 4, 2), (30, 6, 2)] 8 (by kernel_rfl) (by kernel_rfl) (by kernel_rfl) h
  obtain ⟨k, b0_0, e0⟩ := KM.read_i64 Tryz.underlying3 (hs 0 _ _ _ rfl)
  obtain ⟨n, b1_0, e1⟩ := KM.read_i64 Tryz.underlying3 (hs 1 _ _ _ rfl)
  obtain ⟨m, b2_0, e2⟩ := KM.read_i64 Tryz.underlying3 (hs 2 _ _ _ rfl)
  obtain ⟨e, b3_0, e3⟩ := KM.read_i64 Tryz.underlying3 (hs 3 _ _ _ rfl)
  obtain ⟨x, y, b4_0, b4_1, e4⟩ := readPt (hs 4 _ _ _ rfl)
  obtain ⟨z, u, b5_0, b5_1, e5⟩ := readPt (hs 5 _ _ _ rfl)
  refine ⟨k, n, m, e, x, y, z, u, b0_0, b1_0, b2_0, b3_0, b4_0, b4_1, b5_0, b5_1, KM.glue0 [(1, [.int .i64 k]), (1, [.int .i64 n]), (1, [.int .i64 m]), (1, [.int .i64 e]), (2, (ptc x y).toList), (2, (ptc z u).toList)] ⟨e0, e1, e2, e3, e4, e5, hl⟩ (by kernel_rfl)⟩
set_option maxRecDepth 100000 in
theorem openMeet {H : Type} {enc : TypeId × Value → H} {w₀ : World} {base : Nat} {sp : Nat → Bool} {held : Bool} {r : Reach} {b0 : Nat} {v : Value} {d : DataW H} {p : List MemPlace} (hv : Value.okWide Tryz.prog w₀ r b0 60 v) (h : DataW.Trod enc Tryz.prog w₀ base sp held 60 v d p) : ∃ (k : Int) (n : Int) (m : Int) (e : Int) (x : Int) (y : Int) (z : Int) (u : Int), (-9223372036854775808 ≤ k ∧ k ≤ 9223372036854775807) ∧ (-9223372036854775808 ≤ n ∧ n ≤ 9223372036854775807) ∧ (-9223372036854775808 ≤ m ∧ m ≤ 9223372036854775807) ∧ (-9223372036854775808 ≤ e ∧ e ≤ 9223372036854775807) ∧ (-9223372036854775808 ≤ x ∧ x ≤ 9223372036854775807) ∧ (-9223372036854775808 ≤ y ∧ y ≤ 9223372036854775807) ∧ (-9223372036854775808 ≤ z ∧ z ≤ 9223372036854775807) ∧ (-9223372036854775808 ≤ u ∧ u ≤ 9223372036854775807) ∧ v = .agg (mtc k n m e x y z u) := by
  obtain ⟨cs, rfl, hr⟩ := KM.open_row (by kernel_rfl) hv h
  obtain ⟨k, n, m, e, x, y, z, u, b0, b1, b2, b3, b4, b5, b6, b7, hE⟩ := readMeet hr
  exact ⟨k, n, m, e, x, y, z, u, b0, b1, b2, b3, b4, b5, b6, b7, by rw [← Array.toList_inj.1 hE]⟩
end Go.Proofs.YtacicfmalhhceaaGreatDoor.MeW

/- package meet: contracts over the translation. -/
namespace Go.Proofs.YtacicfmalhhceaaGreatDoor.MeW
open Go.RowKit
open KM PtM OrM PtW OrW MeM
theorem two_ret2 (z : Int) (h1 : -9223372036854775808 ≤ z) (h2 : z ≤ 9223372036854775807) (w : World) : Calls Tryz.prog 64 #[.int .i64 z] w (Ret (.tuple #[.bool (decide (z < 0)), .int .u64 (z.natAbs : Nat)]) w) :=
  (DigW.two_any z w h1 h2).mono fun e w' ⟨he, hw⟩ => ⟨he, by rw [← hw]; exact Below.refl _ _⟩
set_option maxRecDepth 100000 in
set_option maxHeartbeats 3200000 in
theorem size_any (n : Int) (h1 : -9223372036854775807 ≤ n) (h2 : n ≤ 9223372036854775807) (w : World) : Calls Tryz.prog 87 #[.int .i64 n] w (Ret (.int .i64 (ab n)) w) := by
  have H2 := Lib.hid (fun w => two_ret2 n (by omega) h2 w)
  have c1 : IntKind.i64.wrap (n.natAbs : Int) = ab n := by unfold ab; rw [IntKind.wrap_i64]; omega
  generalize ab n = m at *
  generalize decide (n < 0) = s at *
  generalize (n.natAbs : Int) = k at *
  clear h1 h2
  refine enter fun u => ?_
  go_enter Tryz.func87, Tryz.ntmps87
  go_wp2_with (first
    | ((with_reducible refine ls_skip ?_ ?_); (exact rfl); (try simp only [Act.put, List.setIfInBounds_toArray, List.set_cons_succ, List.set_cons_zero]))
    | (go_at_call 64; (with_reducible refine (H2.out _).mono ?_); rintro e w' ⟨rfl, hb'⟩; obtain ⟨_, rfl⟩ := KW.go _ hb'; clear hb'))
  go_ret
  exact ⟨rfl, KW.below _⟩
def endV (x y X Y : Int) : Int := if (X == x && Y == y) = true then 0 else 1
set_option maxRecDepth 100000 in
set_option maxHeartbeats 3200000 in
theorem end_any (x y z u X Y : Int) (w : World) : Calls Tryz.prog 86 #[sgv x y z u, ptv X Y] w (Ret (.int .i64 (endV x y X Y)) w) := by
  have H1 := fun w => eqlPt X Y x y w
  unfold endV
  generalize (X == x && Y == y) = b1 at *
  cases b1
  · rw [if_neg (by decide)]
    refine enter fun u => ?_
    go_enter Tryz.func86, Tryz.ntmps86
    go_wp2_with (first
      | ((with_reducible refine ls_skip ?_ ?_); (exact rfl); (try simp only [Act.put, List.setIfInBounds_toArray, List.set_cons_succ, List.set_cons_zero]))
      | ((with_reducible refine ck_box ?_); refine list_box rfl fun _ _ => ?_)
      | ((with_reducible refine ck_load ?_); first | refine ls_load rfl inferInstance inferInstance ?_ | refine ls_cell rfl inferInstance inferInstance ?_))
    go_ret
    exact ⟨rfl, KW.below _⟩
  · rw [if_pos rfl]
    refine enter fun u => ?_
    go_enter Tryz.func86, Tryz.ntmps86
    go_wp2_with (first
      | ((with_reducible refine ls_skip ?_ ?_); (exact rfl); (try simp only [Act.put, List.setIfInBounds_toArray, List.set_cons_succ, List.set_cons_zero]))
      | ((with_reducible refine ck_box ?_); refine list_box rfl fun _ _ => ?_)
      | ((with_reducible refine ck_load ?_); first | refine ls_load rfl inferInstance inferInstance ?_ | refine ls_cell rfl inferInstance inferInstance ?_))
    go_ret
    exact ⟨rfl, KW.below _⟩
theorem crossV_bd (x y z u s t : Int) : -2305843009213693952 ≤ crossV x y z u s t ∧ crossV x y z u s t ≤ 2305843009213693952 := by
  unfold crossV
  split
  · rename_i h
    rw [Bool.and_eq_true, Bool.and_eq_true, mayP_iff, mayP_iff, mayP_iff] at h
    obtain ⟨⟨⟨⟨a1, a2⟩, a3, a4⟩, ⟨a5, a6⟩, a7, a8⟩, ⟨a9, b1⟩, b2, b3⟩ := h
    exact crs_bd a1 a2 a3 a4 a5 a6 a7 a8 a9 b1 b2 b3
  · decide
set_option maxRecDepth 100000 in
set_option maxHeartbeats 3200000 in
theorem crossing_any (x y z u s t p q : Int) (w : World) : Calls Tryz.prog 56 #[sgv x y z u, sgv s t p q] w (Ret (mtv 1 (ab (crossV s t p q x y)) (ab (crossV x y z u s t)) (ab (crossV s t p q x y) + ab (crossV s t p q z u)) 0 0 0 0) w) := by
  have b1 := crossV_bd s t p q x y
  have b2 := crossV_bd s t p q z u
  have b3 := crossV_bd x y z u s t
  have C1 := Lib.hid (fun w => cross_any s t p q x y w)
  have C2 := Lib.hid (fun w => cross_any s t p q z u w)
  have C3 := Lib.hid (fun w => cross_any x y z u s t w)
  generalize crossV s t p q x y = c1 at *
  generalize crossV s t p q z u = c2 at *
  generalize crossV x y z u s t = c3 at *
  have S1 := Lib.hid (fun w => size_any c1 (by omega) (by omega) w)
  have S2 := Lib.hid (fun w => size_any c2 (by omega) (by omega) w)
  have S3 := Lib.hid (fun w => size_any c3 (by omega) (by omega) w)
  have w1 : IntKind.i64.wrap (ab c1 + ab c2) = ab c1 + ab c2 := by unfold ab; rw [IntKind.wrap_i64]; omega
  generalize ab c1 = d1 at *
  generalize ab c2 = d2 at *
  generalize ab c3 = d3 at *
  clear b1 b2 b3
  refine enter fun u => ?_
  go_enter Tryz.func56, Tryz.ntmps56
  go_wp2_with (first
    | ((with_reducible refine ls_skip ?_ ?_); (exact rfl); (try simp only [Act.put, List.setIfInBounds_toArray, List.set_cons_succ, List.set_cons_zero]))
    | ((with_reducible refine ck_box ?_); refine list_box rfl fun _ _ => ?_)
    | ((with_reducible refine ck_alloc ?_); refine ls_alloc inferInstance fun _ _ => ?_)
    | ((with_reducible refine ck_load ?_); first | refine ls_load rfl inferInstance inferInstance ?_ | refine ls_cell rfl inferInstance inferInstance ?_)
    | ((with_reducible refine ck_store ?_); refine ls_store rfl rfl inferInstance inferInstance inferInstance fun _ => ?_)
    | ((with_reducible refine ck_build (t := 60) (xs := #[(0, _), (1, _), (2, _), (3, _)]) ?_); refine ls_Meet_0123 rfl rfl rfl rfl ?_)
    | (go_at_call 88; (with_reducible refine (C1.out _).mono ?_); rintro e w' ⟨rfl, hb'⟩; obtain ⟨_, rfl⟩ := KW.go _ hb'; clear hb')
    | (go_at_call 88; (with_reducible refine (C2.out _).mono ?_); rintro e w' ⟨rfl, hb'⟩; obtain ⟨_, rfl⟩ := KW.go _ hb'; clear hb')
    | (go_at_call 88; (with_reducible refine (C3.out _).mono ?_); rintro e w' ⟨rfl, hb'⟩; obtain ⟨_, rfl⟩ := KW.go _ hb'; clear hb')
    | (go_at_call 87; (with_reducible refine (S1.out _).mono ?_); rintro e w' ⟨rfl, hb'⟩; obtain ⟨_, rfl⟩ := KW.go _ hb'; clear hb')
    | (go_at_call 87; (with_reducible refine (S2.out _).mono ?_); rintro e w' ⟨rfl, hb'⟩; obtain ⟨_, rfl⟩ := KW.go _ hb'; clear hb')
    | (go_at_call 87; (with_reducible refine (S3.out _).mono ?_); rintro e w' ⟨rfl, hb'⟩; obtain ⟨_, rfl⟩ := KW.go _ hb'; clear hb'))
  exact bd_cell Tryz.results56 rfl inferInstance inferInstance ⟨rfl, KW.below _⟩
end Go.Proofs.YtacicfmalhhceaaGreatDoor.MeW

/- package meet: lines along one straight line. -/
namespace Go.Proofs.YtacicfmalhhceaaGreatDoor.MeW
open Go.RowKit
open KM PtM OrM PtW OrW MeM
/-- one of four numbers -/
def pk (a b c d : Int) : Nat → Int
  | 0 => a
  | 1 => b
  | 2 => c
  | 3 => d
  | _ => 0
def p4c (x y z u s t p q : Int) : Array Value := #[.int .i64 x, .int .i64 y, .int .i64 z, .int .i64 u, .int .i64 s, .int .i64 t, .int .i64 p, .int .i64 q]
set_option maxRecDepth 100000 in
instance sliceP4 (x y z u s t p q : Int) : SliceB Tryz.prog 142 4 [(0, ptv x y), (1, ptv z u), (2, ptv s t), (3, ptv p q)] 30 (p4c x y z u s t p q) := ⟨by kernel_rfl⟩
theorem part_p4 (x y z u s t p q : Int) : ∀ m, m < 4 → Part Tryz.prog 30 (p4c x y z u s t p q) (m * 2) (ptc (pk x z s p m) (pk y u t q m))
  | 0, _ => Part.of (rowPt _ _) (by kernel_rfl)
  | 1, _ => Part.of (rowPt _ _) (by kernel_rfl)
  | 2, _ => Part.of (rowPt _ _) (by kernel_rfl)
  | 3, _ => Part.of (rowPt _ _) (by kernel_rfl)
  | m + 4, h => absurd h (by omega)
/-- is the how-manieth end in common? -/
def cB (x y z u s t p q : Int) (k : Nat) : Bool := onV x y z u (pk x z s p k) (pk y u t q k) && onV s t p q (pk x z s p k) (pk y u t q k)
/-- how far along is it? -/
def kB (x y z u s t p q : Int) (k : Nat) : Int := dotV x y z u (pk x z s p k) (pk y u t q k)
section
variable (x y z u s t p q : Int)
abbrev fB (k : Nat) : Nat := fI (cB x y z u s t p q) (kB x y z u s t p q) k
abbrev lB (k : Nat) : Nat := lI (cB x y z u s t p q) (kB x y z u s t p q) k
variable {x y z u s t p q}
theorem on_end (h : lineP x y z u = true) : onV x y z u x y = true ∧ onV x y z u z u = true := by
  obtain ⟨a, b, c⟩ := line_iff.1 h
  exact ⟨onV_iff.2 ⟨h, a, on_a⟩, onV_iff.2 ⟨h, b, on_b⟩⟩
theorem fB_on (h : lineP x y z u = true) (k : Nat) : onV x y z u (pk x z s p (fB x y z u s t p q k)) (pk y u t q (fB x y z u s t p q k)) = true := by
  rcases (fI_le (c := cB x y z u s t p q) (κ := kB x y z u s t p q) k).2.2 with h1 | h1
  · unfold fB; rw [h1]; exact (on_end h).2
  · unfold cB at h1; rw [Bool.and_eq_true] at h1; exact h1.1
theorem lB_on (h : lineP x y z u = true) (k : Nat) : onV x y z u (pk x z s p (lB x y z u s t p q k)) (pk y u t q (lB x y z u s t p q k)) = true := by
  rcases (lI_le (c := cB x y z u s t p q) (κ := kB x y z u s t p q) k).2.2 with h1 | h1
  · unfold lB; rw [h1]; exact (on_end h).1
  · unfold cB at h1; rw [Bool.and_eq_true] at h1; exact h1.1
theorem step_no {m : Nat} (h : cB x y z u s t p q m = false) : fB x y z u s t p q (m + 1) = fB x y z u s t p q m ∧ lB x y z u s t p q (m + 1) = lB x y z u s t p q m := by
  unfold fB lB
  constructor
  · rw [fI, h, Bool.false_and, if_neg (by decide)]
  · rw [lI, h, Bool.false_and, if_neg (by decide)]
theorem order_key {X Y X' Y' : Int} (h1 : onV x y z u X Y = true) (h2 : onV x y z u X' Y' = true) :
    decide (orderV x y z u X Y X' Y' < 0) = decide (dotV x y z u X Y < dotV x y z u X' Y') ∧ decide (0 < orderV x y z u X Y X' Y') = decide (dotV x y z u X' Y' < dotV x y z u X Y) := by
  rw [← order_eq]
  unfold orderR
  rw [h1, h2, if_pos (show (true && true) = true from rfl)]
  have := sgn_cases (dotV x y z u X Y - dotV x y z u X' Y')
  generalize dotV x y z u X Y = A at *
  generalize dotV x y z u X' Y' = B at *
  generalize sgn (A - B) = C at *
  constructor
  · exact decide_eq_decide.2 (by omega)
  · exact decide_eq_decide.2 (by omega)
theorem step_yes {m : Nat} (h1 : lineP x y z u = true) (h : cB x y z u s t p q m = true) :
    (fB x y z u s t p q (m + 1) = if decide (orderV x y z u (pk x z s p m) (pk y u t q m) (pk x z s p (fB x y z u s t p q m)) (pk y u t q (fB x y z u s t p q m)) < 0) = true then m else fB x y z u s t p q m) ∧
    (lB x y z u s t p q (m + 1) = if decide (0 < orderV x y z u (pk x z s p m) (pk y u t q m) (pk x z s p (lB x y z u s t p q m)) (pk y u t q (lB x y z u s t p q m))) = true then m else lB x y z u s t p q m) := by
  have h2 : onV x y z u (pk x z s p m) (pk y u t q m) = true := by unfold cB at h; rw [Bool.and_eq_true] at h; exact h.1
  rw [(order_key h2 (fB_on h1 m)).1, (order_key h2 (lB_on h1 m)).2]
  unfold fB lB
  constructor
  · rw [fI, h, Bool.true_and]; rfl
  · rw [lI, h, Bool.true_and]; rfl
end
def CmRel (x y z u s t p q : Int) (w : World) (g2 g3 g4 g5 g20 : Nat) (i : Value) (wr : World) : Prop :=
  ∃ (m : Nat) (v : KW w [⟨g20, p4c x y z u s t p q, 30⟩, ⟨g5, ptc (pk x z s p (lB x y z u s t p q m)) (pk y u t q (lB x y z u s t p q m)), 30⟩, ⟨g4, ptc (pk x z s p (fB x y z u s t p q m)) (pk y u t q (fB x y z u s t p q m)), 30⟩, ⟨g3, sgc s t p q, 54⟩, ⟨g2, sgc x y z u, 54⟩]), i = .int .i64 m ∧ wr = v.w ∧ Hid (m ≤ 4)
set_option maxRecDepth 100000 in
set_option maxHeartbeats 6400000 in
theorem common_any (x y z u s t p q : Int) (h1 : lineP x y z u = true) (w : World) : Calls Tryz.prog 85 #[sgv x y z u, sgv s t p q] w
    (Ret (.tuple #[ptv (pk x z s p (fB x y z u s t p q 4)) (pk y u t q (fB x y z u s t p q 4)), ptv (pk x z s p (lB x y z u s t p q 4)) (pk y u t q (lB x y z u s t p q 4))]) w) := by
  replace h1 := Lib.hid h1
  obtain ⟨FX, hFX⟩ : ∃ v, v = pk x z s p (fB x y z u s t p q 4) := ⟨_, rfl⟩
  obtain ⟨FY, hFY⟩ : ∃ v, v = pk y u t q (fB x y z u s t p q 4) := ⟨_, rfl⟩
  obtain ⟨LX, hLX⟩ : ∃ v, v = pk x z s p (lB x y z u s t p q 4) := ⟨_, rfl⟩
  obtain ⟨LY, hLY⟩ : ∃ v, v = pk y u t q (lB x y z u s t p q 4) := ⟨_, rfl⟩
  rw [← hFX, ← hFY, ← hLX, ← hLY]
  replace hFX := Lib.hid hFX
  replace hFY := Lib.hid hFY
  replace hLX := Lib.hid hLX
  replace hLY := Lib.hid hLY
  refine enter fun v => ?_
  go_enter Tryz.func85, Tryz.ntmps85
  go_wp2_with (first
    | ((with_reducible refine ls_skip ?_ ?_); (exact rfl); (try simp only [Act.put, List.setIfInBounds_toArray, List.set_cons_succ, List.set_cons_zero]))
    | ((with_reducible refine ck_box ?_); refine list_box rfl fun _ _ => ?_)
    | ((with_reducible refine ck_alloc ?_); refine ls_alloc inferInstance fun _ _ => ?_))
  rename_i g2 v2 g3 v3 g4 v4 g5 v5 _ _
  refine region_mixS [.take 0, .take 1, .take 2, .take 3, .sole 4, .sole 5] _ (Sub.skip (h := Sub.skip (h := Sub.both (h := Sub.both (h := Sub.nil))))) (by kernel_rfl) (by kernel_rfl) ?_
  simp only [picksM, Mv.pick, List.filterMap_cons, List.filterMap_nil, List.getElem?_cons_zero, List.getElem?_cons_succ, Option.map_some]
  refine MM.out ?_
  repeat (first
    | ((with_reducible apply mm_load); exact rfl; infer_instance; infer_instance; (try simp only [Act.put, List.setIfInBounds_toArray, List.set_cons_succ, List.set_cons_zero]))
    | ((with_reducible apply mm_cell); exact rfl; infer_instance; infer_instance; (try simp only [Act.put, List.setIfInBounds_toArray, List.set_cons_succ, List.set_cons_zero]))
    | ((with_reducible apply mm_value); (intro _; go_simp; try exact rfl); (try simp only [Act.put, List.setIfInBounds_toArray, List.set_cons_succ, List.set_cons_zero]))
    | ((with_reducible apply mo_store); exact rfl; exact rfl; infer_instance; infer_instance; infer_instance; infer_instance; (try simp only [Act.put, List.setIfInBounds_toArray, List.set_cons_succ, List.set_cons_zero]))
    | ((with_reducible apply mo_put); exact rfl; exact rfl; infer_instance; infer_instance; infer_instance; infer_instance; (try simp only [Act.put, List.setIfInBounds_toArray, List.set_cons_succ, List.set_cons_zero]))
    | ((with_reducible apply mo_alloc); infer_instance; infer_instance; intro _; (try simp only [Act.put, List.setIfInBounds_toArray, List.set_cons_succ, List.set_cons_zero]))
    | ((with_reducible apply mo_three); (decide); (decide); infer_instance; infer_instance; infer_instance; intro _ _ _; (try simp only [Act.put, List.setIfInBounds_toArray, List.set_cons_succ, List.set_cons_zero]))
    | ((with_reducible apply mo_four); (decide); (decide); infer_instance; infer_instance; infer_instance; infer_instance; intro _ _ _ _; (try simp only [Act.put, List.setIfInBounds_toArray, List.set_cons_succ, List.set_cons_zero]))
    | ((with_reducible apply mo_two); infer_instance; infer_instance; (decide); intro _ _; (try simp only [Act.put, List.setIfInBounds_toArray, List.set_cons_succ, List.set_cons_zero]))
    | ((with_reducible apply mo_load); infer_instance; exact rfl; infer_instance; infer_instance; (try simp only [Act.put, List.setIfInBounds_toArray, List.set_cons_succ, List.set_cons_zero]))
    | ((with_reducible apply mo_cell); infer_instance; exact rfl; infer_instance; infer_instance; (try simp only [Act.put, List.setIfInBounds_toArray, List.set_cons_succ, List.set_cons_zero]))
    | ((with_reducible apply mo_value); infer_instance; (intro _; go_simp; try exact rfl); (try simp only [Act.put, List.setIfInBounds_toArray, List.set_cons_succ, List.set_cons_zero])))
  refine mm_nil fun v6 => ?_
  go_wp2_with (first
    | ((with_reducible refine ls_skip ?_ ?_); (exact rfl); (try simp only [Act.put, List.setIfInBounds_toArray, List.set_cons_succ, List.set_cons_zero]))
    | ((with_reducible refine ck_load ?_); first | refine ls_load rfl inferInstance inferInstance ?_ | refine ls_cell rfl inferInstance inferInstance ?_)
    | ((with_reducible refine ck_slice ?_); refine ls_slice4 rfl rfl rfl rfl inferInstance fun g20 v20 => ?_))
  go_loopw [22] (CmRel x y z u s t p q w g2 g3 g4 g5 g20) (fun i _ => 4 - (intOf i).toNat)
  case atStart => exact ⟨0, _, rfl, rfl, Lib.hid (by decide)⟩
  case round =>
    obtain ⟨m, v, rfl, rfl, hm⟩ := hrel
    by_cases hc : m < 4
    · have b0 : decide ((m : Int) < 4) = true := decide_eq_true (by omega)
      have c0 : IntKind.i64.wrap ((m : Int) + 1) = ((m + 1 : Nat) : Int) := by rw [IntKind.wrap_i64]; omega
      have HN : Hid (m + 1 ≤ 4) := Lib.hid hc
      have HM : Hid (4 - (m + 1) < 4 - m) := Lib.hid (by omega)
      have HP := part_p4 x y z u s t p q m hc
      have HA := fun w => on_any x y z u (pk x z s p m) (pk y u t q m) w
      have HB := fun w => on_any s t p q (pk x z s p m) (pk y u t q m) w
      have hcB : cB x y z u s t p q m = (onV x y z u (pk x z s p m) (pk y u t q m) && onV s t p q (pk x z s p m) (pk y u t q m)) := rfl
      cases e1 : onV x y z u (pk x z s p m) (pk y u t q m) with
      | false =>
        rw [e1, Bool.false_and] at hcB
        obtain ⟨E1, E2⟩ := step_no hcB
        replace E1 := Lib.hid E1
        replace E2 := Lib.hid E2
        rw [e1] at HA
        replace HA := Lib.hid HA
        clear HB hcB e1
        generalize pk x z s p m = X at *
        generalize pk y u t q m = Y at *
        generalize fB x y z u s t p q m = f0 at *
        generalize lB x y z u s t p q m = l0 at *
        go_wp2_with (first
          | ((with_reducible refine ls_skip ?_ ?_); (exact rfl); (try simp only [Act.put, List.setIfInBounds_toArray, List.set_cons_succ, List.set_cons_zero]))
          | ((with_reducible refine ck_alloc ?_); refine ls_alloc inferInstance fun _ _ => ?_)
          | ((with_reducible refine ck_load ?_); first | refine ls_load rfl inferInstance inferInstance ?_ | refine ls_cell rfl inferInstance inferInstance ?_)
          | ((with_reducible refine ck_gload ?_); first | refine lsg_load rfl rfl inferInstance inferInstance ?_ | refine lsg_cell rfl rfl inferInstance inferInstance ?_)
          | ((with_reducible refine ck_store ?_); refine ls_store rfl rfl inferInstance inferInstance inferInstance fun _ => ?_)
          | (go_at_call 123; (with_reducible refine (HA.out _).mono ?_); rintro e w' ⟨rfl, hb'⟩; obtain ⟨_, rfl⟩ := KW.go _ hb'; clear hb'))
        go_roundw
        case rel => exact ⟨m + 1, by rw [E1.out, E2.out]; exact ex_weak inferInstance (by go_num) HN⟩
        case measure => simpa [intOf] using HM.out
      | true =>
        rw [e1, Bool.true_and] at hcB
        rw [e1] at HA
        replace HA := Lib.hid HA
        cases e2 : onV s t p q (pk x z s p m) (pk y u t q m) with
        | false =>
          rw [e2] at hcB
          obtain ⟨E1, E2⟩ := step_no hcB
          replace E1 := Lib.hid E1
          replace E2 := Lib.hid E2
          rw [e2] at HB
          replace HB := Lib.hid HB
          clear hcB e1 e2
          generalize pk x z s p m = X at *
          generalize pk y u t q m = Y at *
          generalize fB x y z u s t p q m = f0 at *
          generalize lB x y z u s t p q m = l0 at *
          go_wp2_with (first
            | ((with_reducible refine ls_skip ?_ ?_); (exact rfl); (try simp only [Act.put, List.setIfInBounds_toArray, List.set_cons_succ, List.set_cons_zero]))
            | ((with_reducible refine ck_alloc ?_); refine ls_alloc inferInstance fun _ _ => ?_)
            | ((with_reducible refine ck_load ?_); first | refine ls_load rfl inferInstance inferInstance ?_ | refine ls_cell rfl inferInstance inferInstance ?_)
            | ((with_reducible refine ck_gload ?_); first | refine lsg_load rfl rfl inferInstance inferInstance ?_ | refine lsg_cell rfl rfl inferInstance inferInstance ?_)
            | ((with_reducible refine ck_store ?_); refine ls_store rfl rfl inferInstance inferInstance inferInstance fun _ => ?_)
            | (go_at_call 123; (with_reducible refine (HA.out _).mono ?_); rintro e w' ⟨rfl, hb'⟩; obtain ⟨_, rfl⟩ := KW.go _ hb'; clear hb')
            | (go_at_call 123; (with_reducible refine (HB.out _).mono ?_); rintro e w' ⟨rfl, hb'⟩; obtain ⟨_, rfl⟩ := KW.go _ hb'; clear hb'))
          go_roundw
          case rel => exact ⟨m + 1, by rw [E1.out, E2.out]; exact ex_weak inferInstance (by go_num) HN⟩
          case measure => simpa [intOf] using HM.out
        | true =>
          rw [e2] at hcB
          obtain ⟨E1, E2⟩ := step_yes h1.out hcB
          rw [e2] at HB
          replace HB := Lib.hid HB
          have HO := fun w => order_any x y z u (pk x z s p m) (pk y u t q m) (pk x z s p (fB x y z u s t p q m)) (pk y u t q (fB x y z u s t p q m)) w
          have HQ := fun w => order_any x y z u (pk x z s p m) (pk y u t q m) (pk x z s p (lB x y z u s t p q m)) (pk y u t q (lB x y z u s t p q m)) w
          generalize orderV x y z u (pk x z s p m) (pk y u t q m) (pk x z s p (fB x y z u s t p q m)) (pk y u t q (fB x y z u s t p q m)) = o1 at *
          generalize orderV x y z u (pk x z s p m) (pk y u t q m) (pk x z s p (lB x y z u s t p q m)) (pk y u t q (lB x y z u s t p q m)) = o2 at *
          obtain ⟨d1, k1⟩ : ∃ d, decide (o1 < 0) = d := ⟨_, rfl⟩
          obtain ⟨d2, k2⟩ : ∃ d, decide (0 < o2) = d := ⟨_, rfl⟩
          rw [k1] at E1
          rw [k2] at E2
          replace HO := Lib.hid HO
          replace HQ := Lib.hid HQ
          clear hcB e1 e2
          cases d1 <;> cases d2 <;> first | rw [if_neg (by decide)] at E1 | rw [if_pos rfl] at E1
          all_goals first | rw [if_neg (by decide)] at E2 | rw [if_pos rfl] at E2
          all_goals (
            replace E1 := Lib.hid E1
            replace E2 := Lib.hid E2
            generalize hX : pk x z s p m = X at *
            generalize hY : pk y u t q m = Y at *
            replace hX := Lib.hid hX
            replace hY := Lib.hid hY
            generalize fB x y z u s t p q m = f0 at *
            generalize lB x y z u s t p q m = l0 at *
            go_wp2_with (first
              | ((with_reducible refine ls_skip ?_ ?_); (exact rfl); (try simp only [Act.put, List.setIfInBounds_toArray, List.set_cons_succ, List.set_cons_zero]))
              | ((with_reducible refine ck_alloc ?_); refine ls_alloc inferInstance fun _ _ => ?_)
              | ((with_reducible refine ck_load ?_); first | refine ls_load rfl inferInstance inferInstance ?_ | refine ls_cell rfl inferInstance inferInstance ?_)
              | ((with_reducible refine ck_gload ?_); first | refine lsg_load rfl rfl inferInstance inferInstance ?_ | refine lsg_cell rfl rfl inferInstance inferInstance ?_)
              | ((with_reducible refine ck_store ?_); refine ls_store rfl rfl inferInstance inferInstance inferInstance fun _ => ?_)
              | (go_at_call 123; (with_reducible refine (HA.out _).mono ?_); rintro e w' ⟨rfl, hb'⟩; obtain ⟨_, rfl⟩ := KW.go _ hb'; clear hb')
              | (go_at_call 123; (with_reducible refine (HB.out _).mono ?_); rintro e w' ⟨rfl, hb'⟩; obtain ⟨_, rfl⟩ := KW.go _ hb'; clear hb')
              | (go_at_call 124; (with_reducible refine (HO.out _).mono ?_); rintro e w' ⟨rfl, hb'⟩; obtain ⟨_, rfl⟩ := KW.go _ hb'; clear hb')
              | (go_at_call 124; (with_reducible refine (HQ.out _).mono ?_); rintro e w' ⟨rfl, hb'⟩; obtain ⟨_, rfl⟩ := KW.go _ hb'; clear hb'))
            go_roundw
            case rel => exact ⟨m + 1, by rw [E1.out, E2.out]; (try rw [hX.out]); (try rw [hY.out]); exact ex_weak inferInstance (by go_num) HN⟩
            case measure => simpa [intOf] using HM.out)
    · obtain rfl : m = 4 := by have := hm.out; omega
      have b0 : decide (((4 : Nat) : Int) < 4) = false := rfl
      clear hc
      revert v
      rw [← hFX.out, ← hFY.out, ← hLX.out, ← hLY.out]
      intro v
      go_wp2_with (fail)
      refine region_fork (by kernel_rfl) ?_
      repeat' (first
        | refine aa_nil (by decide +kernel) fun v7 => ?_
        | (refine aa_one 2 (by decide +kernel) rfl ?_ <;> simp only [List.getElem_toArray, List.getElem_cons_zero, List.getElem_cons_succ])
        | (refine aa_one 1 (by decide +kernel) rfl ?_ <;> simp only [List.getElem_toArray, List.getElem_cons_zero, List.getElem_cons_succ])
        | (refine aa_one 0 (by decide +kernel) rfl ?_ <;> simp only [List.getElem_toArray, List.getElem_cons_zero])
        | (refine aa_one 3 (by decide +kernel) rfl ?_ <;> simp only [List.getElem_toArray, List.getElem_cons_zero, List.getElem_cons_succ])
        | (refine aa_two 0 1 (by decide +kernel) rfl rfl ?_ ?_ <;> simp only [List.getElem_toArray, List.getElem_cons_zero, List.getElem_cons_succ])
        | (refine aa_two 1 2 (by decide +kernel) rfl rfl ?_ ?_ <;> simp only [List.getElem_toArray, List.getElem_cons_zero, List.getElem_cons_succ])
        | ((with_reducible apply se_load); exact rfl; infer_instance; infer_instance; (unfold Nxt; try simp only [Act.put, List.setIfInBounds_toArray, List.set_cons_succ, List.set_cons_zero]))
        | ((with_reducible apply se_cell); exact rfl; infer_instance; infer_instance; (unfold Nxt; try simp only [Act.put, List.setIfInBounds_toArray, List.set_cons_succ, List.set_cons_zero]))
        | ((with_reducible apply se_store); exact rfl; exact rfl; infer_instance; infer_instance; infer_instance; (unfold Nxt; try simp only [Act.put]))
        | ((with_reducible apply se_put); exact rfl; exact rfl; infer_instance; infer_instance; infer_instance; (unfold Nxt; try simp only [Act.put]))
        | ((with_reducible apply se_value); (intro _; go_simp; try exact rfl); (unfold Nxt; try simp only [Act.put, List.setIfInBounds_toArray, List.set_cons_succ, List.set_cons_zero])))
      all_goals (
        go_wp2_with (fail)
        exact bd_cell2 Tryz.results85 rfl rfl inferInstance inferInstance inferInstance inferInstance ⟨rfl, KW.below _⟩)
end Go.Proofs.YtacicfmalhhceaaGreatDoor.MeW

/- package meet: how lines meet. -/
namespace Go.Proofs.YtacicfmalhhceaaGreatDoor.MeW
open Go.RowKit
open KM PtM OrM PtW OrW MeM
/-- a meeting -/
structure MT where
  k : Int
  n : Int
  m : Int
  e : Int
  x : Int
  y : Int
  z : Int
  u : Int
abbrev MT.v (M : MT) : Value := mtv M.k M.n M.m M.e M.x M.y M.z M.u
section
variable (x y z u s t p q : Int)
/-- along one straight line: from the first point in common to the last -/
def strM (FX FY LX LY : Int) : MT := if (FX == LX && FY == LY) = true then ⟨1, endV x y FX FY, endV s t FX FY, 1, 0, 0, 0, 0⟩ else ⟨2, 0, 0, 0, FX, FY, LX, LY⟩
def flatM : MT := strM x y s t (pk x z s p (fB x y z u s t p q 4)) (pk y u t q (fB x y z u s t p q 4)) (pk x z s p (lB x y z u s t p q 4)) (pk y u t q (lB x y z u s t p q 4))
def crossM : MT := ⟨1, ab (crossV s t p q x y), ab (crossV x y z u s t), ab (crossV s t p q x y) + ab (crossV s t p q z u), 0, 0, 0, 0⟩
def zeroM : MT := ⟨0, 0, 0, 0, 0, 0, 0, 0⟩
def meetM : MT := if touchV x y z u s t p q = true then (if alongV x y z u s t p q = true then flatM x y z u s t p q else crossM x y z u s t p q) else zeroM
end
set_option maxRecDepth 100000 in
set_option maxHeartbeats 6400000 in
theorem straight_any (x y z u s t p q : Int) (h1 : lineP x y z u = true) (w : World) : Calls Tryz.prog 55 #[sgv x y z u, sgv s t p q] w (Ret (flatM x y z u s t p q).v w) := by
  have HC := fun w => common_any x y z u s t p q h1 w
  unfold flatM
  generalize pk x z s p (fB x y z u s t p q 4) = FX at *
  generalize pk y u t q (fB x y z u s t p q 4) = FY at *
  generalize pk x z s p (lB x y z u s t p q 4) = LX at *
  generalize pk y u t q (lB x y z u s t p q 4) = LY at *
  have HE := fun w => eqlPt FX FY LX LY w
  have H1 := Lib.hid (fun w => end_any x y z u FX FY w)
  have H2 := Lib.hid (fun w => end_any s t p q FX FY w)
  replace HC := Lib.hid HC
  unfold strM MT.v
  generalize endV x y FX FY = N at *
  generalize endV s t FX FY = M at *
  generalize (FX == LX && FY == LY) = b at *
  clear h1
  cases b
  · rw [if_neg (by decide)]
    refine enter fun u => ?_
    go_enter Tryz.func55, Tryz.ntmps55
    go_wp2_with (first
      | ((with_reducible refine ls_skip ?_ ?_); (exact rfl); (try simp only [Act.put, List.setIfInBounds_toArray, List.set_cons_succ, List.set_cons_zero]))
      | ((with_reducible refine ck_box ?_); refine list_box rfl fun _ _ => ?_)
      | ((with_reducible refine ck_alloc ?_); refine ls_alloc inferInstance fun _ _ => ?_)
      | ((with_reducible refine ck_load ?_); first | refine ls_load rfl inferInstance inferInstance ?_ | refine ls_cell rfl inferInstance inferInstance ?_)
      | ((with_reducible refine ck_store ?_); refine ls_store rfl rfl inferInstance inferInstance inferInstance fun _ => ?_)
      | ((with_reducible refine ck_build (t := 60) (xs := #[(0, _), (4, _), (5, _)]) ?_); refine ls_Meet_045 rfl rfl rfl ?_)
      | (go_at_call 85; (with_reducible refine (HC.out _).mono ?_); rintro e w' ⟨rfl, hb'⟩; obtain ⟨_, rfl⟩ := KW.go _ hb'; clear hb'))
    exact bd_cell Tryz.results55 rfl inferInstance inferInstance ⟨rfl, KW.below _⟩
  · rw [if_pos rfl]
    refine enter fun u => ?_
    go_enter Tryz.func55, Tryz.ntmps55
    go_wp2_with (first
      | ((with_reducible refine ls_skip ?_ ?_); (exact rfl); (try simp only [Act.put, List.setIfInBounds_toArray, List.set_cons_succ, List.set_cons_zero]))
      | ((with_reducible refine ck_box ?_); refine list_box rfl fun _ _ => ?_)
      | ((with_reducible refine ck_alloc ?_); refine ls_alloc inferInstance fun _ _ => ?_)
      | ((with_reducible refine ck_load ?_); first | refine ls_load rfl inferInstance inferInstance ?_ | refine ls_cell rfl inferInstance inferInstance ?_)
      | ((with_reducible refine ck_store ?_); refine ls_store rfl rfl inferInstance inferInstance inferInstance fun _ => ?_)
      | (go_at_call 85; (with_reducible refine (HC.out _).mono ?_); rintro e w' ⟨rfl, hb'⟩; obtain ⟨_, rfl⟩ := KW.go _ hb'; clear hb'))
    refine region_mixS [.take 0, .take 1, .take 2, .take 3, .take 4, .take 5, .take 6, .sole 7] _ (Sub.both (h := Sub.both (h := Sub.skip (h := Sub.both (h := Sub.both (h := Sub.nil)))))) (by kernel_rfl) (by kernel_rfl) ?_
    simp only [picksM, Mv.pick, List.filterMap_cons, List.filterMap_nil, List.getElem?_cons_zero, List.getElem?_cons_succ, Option.map_some]
    refine MM.out ?_
    repeat (first
      | ((with_reducible apply mm_load); exact rfl; infer_instance; infer_instance; (try simp only [Act.put, List.setIfInBounds_toArray, List.set_cons_succ, List.set_cons_zero]))
      | ((with_reducible apply mm_cell); exact rfl; infer_instance; infer_instance; (try simp only [Act.put, List.setIfInBounds_toArray, List.set_cons_succ, List.set_cons_zero]))
      | ((with_reducible apply mm_Meet_0123); exact rfl; exact rfl; exact rfl; exact rfl; (try simp only [Act.put, List.setIfInBounds_toArray, List.set_cons_succ, List.set_cons_zero]))
      | ((with_reducible apply mm_callf (f := 86)); (intro _; go_simp; try exact rfl); (with_reducible exact fun _ u => H1.out _); (try simp only [Act.put, List.setIfInBounds_toArray, List.set_cons_succ, List.set_cons_zero]))
      | ((with_reducible apply mo_callf (f := 86)); infer_instance; (intro _; go_simp; try exact rfl); (with_reducible exact fun u => H1.out _); (try simp only [Act.put, List.setIfInBounds_toArray, List.set_cons_succ, List.set_cons_zero]))
      | ((with_reducible apply mm_callf (f := 86)); (intro _; go_simp; try exact rfl); (with_reducible exact fun _ u => H2.out _); (try simp only [Act.put, List.setIfInBounds_toArray, List.set_cons_succ, List.set_cons_zero]))
      | ((with_reducible apply mo_callf (f := 86)); infer_instance; (intro _; go_simp; try exact rfl); (with_reducible exact fun u => H2.out _); (try simp only [Act.put, List.setIfInBounds_toArray, List.set_cons_succ, List.set_cons_zero]))
      | ((with_reducible apply mm_value); (intro _; go_simp; try exact rfl); (try simp only [Act.put, List.setIfInBounds_toArray, List.set_cons_succ, List.set_cons_zero]))
      | ((with_reducible apply mo_store); exact rfl; exact rfl; infer_instance; infer_instance; infer_instance; infer_instance; (try simp only [Act.put, List.setIfInBounds_toArray, List.set_cons_succ, List.set_cons_zero]))
      | ((with_reducible apply mo_put); exact rfl; exact rfl; infer_instance; infer_instance; infer_instance; infer_instance; (try simp only [Act.put, List.setIfInBounds_toArray, List.set_cons_succ, List.set_cons_zero]))
      | ((with_reducible apply mo_alloc); infer_instance; infer_instance; intro _; (try simp only [Act.put, List.setIfInBounds_toArray, List.set_cons_succ, List.set_cons_zero]))
      | ((with_reducible apply mo_three); (decide); (decide); infer_instance; infer_instance; infer_instance; intro _ _ _; (try simp only [Act.put, List.setIfInBounds_toArray, List.set_cons_succ, List.set_cons_zero]))
      | ((with_reducible apply mo_four); (decide); (decide); infer_instance; infer_instance; infer_instance; infer_instance; intro _ _ _ _; (try simp only [Act.put, List.setIfInBounds_toArray, List.set_cons_succ, List.set_cons_zero]))
      | ((with_reducible apply mo_two); infer_instance; infer_instance; (decide); intro _ _; (try simp only [Act.put, List.setIfInBounds_toArray, List.set_cons_succ, List.set_cons_zero]))
      | ((with_reducible apply mo_load); infer_instance; exact rfl; infer_instance; infer_instance; (try simp only [Act.put, List.setIfInBounds_toArray, List.set_cons_succ, List.set_cons_zero]))
      | ((with_reducible apply mo_cell); infer_instance; exact rfl; infer_instance; infer_instance; (try simp only [Act.put, List.setIfInBounds_toArray, List.set_cons_succ, List.set_cons_zero]))
      | ((with_reducible apply mo_value); infer_instance; (intro _; go_simp; try exact rfl); (try simp only [Act.put, List.setIfInBounds_toArray, List.set_cons_succ, List.set_cons_zero])))
    refine mm_nil fun u7 => ?_
    go_wp2_with (fail)
    exact bd_cell Tryz.results55 rfl inferInstance inferInstance ⟨rfl, KW.below _⟩
set_option maxRecDepth 100000 in
set_option maxHeartbeats 6400000 in
theorem meet_any (x y z u s t p q : Int) (w : World) : Calls Tryz.prog 26 #[sgv x y z u, sgv s t p q] w (Ret (meetM x y z u s t p q).v w) := by
  have HT := fun w => touch_any x y z u s t p q w
  rw [touch_eq] at HT
  unfold meetM
  cases e1 : touchV x y z u s t p q with
  | false =>
    rw [e1] at HT
    replace HT := Lib.hid HT
    rw [if_neg (by decide)]
    unfold zeroM MT.v
    clear e1
    refine enter fun u => ?_
    go_enter Tryz.func26, Tryz.ntmps26
    go_wp2_with (first
      | ((with_reducible refine ls_skip ?_ ?_); (exact rfl); (try simp only [Act.put, List.setIfInBounds_toArray, List.set_cons_succ, List.set_cons_zero]))
      | ((with_reducible refine ck_box ?_); refine list_box rfl fun _ _ => ?_)
      | ((with_reducible refine ck_alloc ?_); refine ls_alloc inferInstance fun _ _ => ?_)
      | ((with_reducible refine ck_load ?_); first | refine ls_load rfl inferInstance inferInstance ?_ | refine ls_cell rfl inferInstance inferInstance ?_)
      | ((with_reducible refine ck_store ?_); refine ls_store rfl rfl inferInstance inferInstance inferInstance fun _ => ?_)
      | ((with_reducible refine ck_build (t := 60) (xs := #[]) ?_); refine ls_Meet_ ?_)
      | (go_at_call 53; (with_reducible refine (HT.out _).mono ?_); rintro e w' ⟨rfl, hb'⟩; obtain ⟨_, rfl⟩ := KW.go _ hb'; clear hb'))
    exact bd_cell Tryz.results26 rfl inferInstance inferInstance ⟨rfl, KW.below _⟩
  | true =>
    rw [e1] at HT
    replace HT := Lib.hid HT
    rw [if_pos rfl]
    have HA := fun w => along_any x y z u s t p q w
    have HS := Lib.hid (fun w => straight_any x y z u s t p q (touchV_iff.1 e1).1 w)
    have HC := Lib.hid (fun w => crossing_any x y z u s t p q w)
    cases e2 : alongV x y z u s t p q with
    | true =>
      rw [if_pos rfl]
      rw [e2] at HA
      replace HA := Lib.hid HA
      generalize flatM x y z u s t p q = FM at *
      clear HC e1 e2
      unfold MT.v at *
      refine enter fun u => ?_
      go_enter Tryz.func26, Tryz.ntmps26
      go_wp2_with (first
        | ((with_reducible refine ls_skip ?_ ?_); (exact rfl); (try simp only [Act.put, List.setIfInBounds_toArray, List.set_cons_succ, List.set_cons_zero]))
        | ((with_reducible refine ck_box ?_); refine list_box rfl fun _ _ => ?_)
        | ((with_reducible refine ck_alloc ?_); refine ls_alloc inferInstance fun _ _ => ?_)
        | ((with_reducible refine ck_load ?_); first | refine ls_load rfl inferInstance inferInstance ?_ | refine ls_cell rfl inferInstance inferInstance ?_)
        | ((with_reducible refine ck_store ?_); refine ls_store rfl rfl inferInstance inferInstance inferInstance fun _ => ?_)
        | (go_at_call 53; (with_reducible refine (HT.out _).mono ?_); rintro e w' ⟨rfl, hb'⟩; obtain ⟨_, rfl⟩ := KW.go _ hb'; clear hb')
        | (go_at_call 54; (with_reducible refine (HA.out _).mono ?_); rintro e w' ⟨rfl, hb'⟩; obtain ⟨_, rfl⟩ := KW.go _ hb'; clear hb')
        | (go_at_call 55; (with_reducible refine (HS.out _).mono ?_); rintro e w' ⟨rfl, hb'⟩; obtain ⟨_, rfl⟩ := KW.go _ hb'; clear hb'))
      exact bd_cell Tryz.results26 rfl inferInstance inferInstance ⟨rfl, KW.below _⟩
    | false =>
      rw [if_neg (by decide)]
      rw [e2] at HA
      replace HA := Lib.hid HA
      unfold crossM MT.v
      generalize ab (crossV s t p q x y) = d1 at *
      generalize ab (crossV s t p q z u) = d2 at *
      generalize ab (crossV x y z u s t) = d3 at *
      generalize d1 + d2 = d4 at *
      clear HS e1 e2
      refine enter fun u => ?_
      go_enter Tryz.func26, Tryz.ntmps26
      go_wp2_with (first
        | ((with_reducible refine ls_skip ?_ ?_); (exact rfl); (try simp only [Act.put, List.setIfInBounds_toArray, List.set_cons_succ, List.set_cons_zero]))
        | ((with_reducible refine ck_box ?_); refine list_box rfl fun _ _ => ?_)
        | ((with_reducible refine ck_alloc ?_); refine ls_alloc inferInstance fun _ _ => ?_)
        | ((with_reducible refine ck_load ?_); first | refine ls_load rfl inferInstance inferInstance ?_ | refine ls_cell rfl inferInstance inferInstance ?_)
        | ((with_reducible refine ck_store ?_); refine ls_store rfl rfl inferInstance inferInstance inferInstance fun _ => ?_)
        | (go_at_call 53; (with_reducible refine (HT.out _).mono ?_); rintro e w' ⟨rfl, hb'⟩; obtain ⟨_, rfl⟩ := KW.go _ hb'; clear hb')
        | (go_at_call 54; (with_reducible refine (HA.out _).mono ?_); rintro e w' ⟨rfl, hb'⟩; obtain ⟨_, rfl⟩ := KW.go _ hb'; clear hb')
        | (go_at_call 56; (with_reducible refine (HC.out _).mono ?_); rintro e w' ⟨rfl, hb'⟩; obtain ⟨_, rfl⟩ := KW.go _ hb'; clear hb'))
      exact bd_cell Tryz.results26 rfl inferInstance inferInstance ⟨rfl, KW.below _⟩
end Go.Proofs.YtacicfmalhhceaaGreatDoor.MeW

/- The document's layer 9: how lines meet, contracts over the translation. -/
namespace Go.Proofs.YtacicfmalhhceaaGreatDoor.MeW
open Go.RowKit
open KM PtM OrM PtW OrW MeM
section
variable (x y z u s t p q : Int)
abbrev gB (k : Nat) : Bool × Nat × Nat := gI (cB x y z u s t p q) (kB x y z u s t p q) k
/-- as the document tells of lines along one straight line -/
def refS (z u p q FX FY LX LY : Int) : MT := if (FX == LX && FY == LY) = true then ⟨1, if (FX == z && FY == u) = true then 1 else 0, if (FX == p && FY == q) = true then 1 else 0, 1, 0, 0, 0, 0⟩ else ⟨2, 0, 0, 0, FX, FY, LX, LY⟩
def refM (n m e : Int) : MT := if decide (e < 0) = true then ⟨1, -n, -m, -e, 0, 0, 0, 0⟩ else ⟨1, n, m, e, 0, 0, 0, 0⟩
variable {x y z u s t p q}
theorem ref_no {m : Nat} (h : cB x y z u s t p q m = false) : gB x y z u s t p q (m + 1) = gB x y z u s t p q m := by
  unfold gB
  rw [gI, h, if_neg (by decide)]
theorem ref_yes {m : Nat} (h : cB x y z u s t p q m = true) : gB x y z u s t p q (m + 1) =
    (true, if (!(gB x y z u s t p q m).1 || decide (dotV x y z u (pk x z s p m) (pk y u t q m) < dotV x y z u (pk x z s p (gB x y z u s t p q m).2.1) (pk y u t q (gB x y z u s t p q m).2.1))) = true then m else (gB x y z u s t p q m).2.1,
      if (!(gB x y z u s t p q m).1 || decide (dotV x y z u (pk x z s p (gB x y z u s t p q m).2.2) (pk y u t q (gB x y z u s t p q m).2.2) < dotV x y z u (pk x z s p m) (pk y u t q m))) = true then m else (gB x y z u s t p q m).2.2) := by
  unfold gB
  rw [gI, h, if_pos rfl]
  rfl
end
def RfRel (x y z u s t p q : Int) (w : World) (g2 g3 g4 g14 g15 g113 : Nat) (o i : Value) (wr : World) : Prop :=
  ∃ (m : Nat) (b : Bool) (f l : Nat) (v : KW w [⟨g113, p4c x y z u s t p q, 30⟩, ⟨g15, ptc (pk x z s p l) (pk y u t q l), 30⟩, ⟨g14, ptc (pk x z s p f) (pk y u t q f), 30⟩, ⟨g4, mtc 0 0 0 0 0 0 0 0, 60⟩, ⟨g3, sgc s t p q, 54⟩, ⟨g2, sgc x y z u, 54⟩]), (o = .bool b ∧ i = .int .i64 m) ∧ wr = v.w ∧ Hid (m ≤ 4 ∧ gB x y z u s t p q m = (b, f, l))
theorem n_is (x y s t p q : Int) : (s - x) * (q - t) - (t - y) * (p - s) = crs s t p q x y := by unfold crs; grind
theorem m_is (x y z u s t : Int) : (s - x) * (u - y) - (t - y) * (z - x) = -crs x y z u s t := by unfold crs; grind
theorem sub_bd {a b : Int} (h1 : -536870912 ≤ a ∧ a ≤ 536870912) (h2 : -536870912 ≤ b ∧ b ≤ 536870912) : (-1073741824 ≤ a - b ∧ a - b ≤ 1073741824) ∧ IntKind.i64.wrap (a - b) = a - b := by
  refine ⟨by omega, ?_⟩
  rw [IntKind.wrap_i64]; omega
theorem mul_wr {a b : Int} (h1 : -1073741824 ≤ a ∧ a ≤ 1073741824) (h2 : -1073741824 ≤ b ∧ b ≤ 1073741824) : (-1152921504606846976 ≤ a * b ∧ a * b ≤ 1152921504606846976) ∧ IntKind.i64.wrap (a * b) = a * b := by
  have h := mul_bd h1.1 h1.2 h2.1 h2.2
  refine ⟨h, ?_⟩
  rw [IntKind.wrap_i64]; omega
theorem dif_wr {a b : Int} (h1 : -1152921504606846976 ≤ a ∧ a ≤ 1152921504606846976) (h2 : -1152921504606846976 ≤ b ∧ b ≤ 1152921504606846976) : IntKind.i64.wrap (a - b) = a - b ∧ IntKind.i64.wrap (-(a - b)) = -(a - b) := by
  constructor <;> rw [IntKind.wrap_i64] <;> omega
end Go.Proofs.YtacicfmalhhceaaGreatDoor.MeW

/- The document's layer 9: lines along one straight line. -/
namespace Go.Proofs.YtacicfmalhhceaaGreatDoor.MeW
open Go.RowKit
open KM PtM OrM PtW OrW MeM
end Go.Proofs.YtacicfmalhhceaaGreatDoor.MeW

/- How lines meet: both ways of telling are one; what follows. -/
namespace Go.Proofs.YtacicfmalhhceaaGreatDoor.MeW
open Go.RowKit
open KM PtM OrM PtW OrW MeM
section
variable {x y z u s t p q : Int}
theorem touch_tch (h : touchV x y z u s t p q = true) : lineP x y z u = true ∧ lineP s t p q = true ∧ tch x y z u s t p q := touchV_iff.1 h
/-- lines that touch lie along one straight line just if they go in one direction -/
theorem along_dd (h : touchV x y z u s t p q = true) : alongV x y z u s t p q = true ↔ dd x y z u s t p q = 0 := by
  obtain ⟨h1, h2, h3⟩ := touch_tch h
  obtain ⟨_, _, c1⟩ := line_iff.1 h1
  obtain ⟨_, _, c2⟩ := line_iff.1 h2
  rw [alongV_iff]
  constructor
  · rintro ⟨_, _, a, b⟩; rw [dd_1, a, b]; rfl
  · intro h0; exact ⟨h1, h2, tch_flat c1 c2 h3 h0⟩
/-- lines that cross: what both reckon is the same -/
theorem cross_same (h : touchV x y z u s t p q = true) (h0 : dd x y z u s t p q ≠ 0) : refM (crs s t p q x y) (-crs x y z u s t) (dd x y z u s t p q) = crossM x y z u s t p q := by
  obtain ⟨h1, h2, h3⟩ := touch_tch h
  obtain ⟨a1, b1, c1⟩ := line_iff.1 h1
  obtain ⟨a2, b2, c2⟩ := line_iff.1 h2
  obtain ⟨s1, s2⟩ := tch_sides c1 c2 h3
  obtain ⟨k1, k2⟩ := cross_abs s1 s2
  unfold refM crossM
  rw [crossV_is a2 b2 a1, crossV_is a2 b2 b1, crossV_is a1 b1 a2]
  by_cases hn : dd x y z u s t p q < 0
  · obtain ⟨e1, e2, e3, _⟩ := k2 hn
    rw [if_pos (decide_eq_true hn), e2, e1, e3, Int.neg_neg]
  · obtain ⟨e1, e2, e3, _⟩ := k1 (by omega)
    rw [if_neg (by rw [decide_eq_false hn]; decide), e2, e1, e3]
/-- four ends along one straight line -/
theorem four (h1 : lineP x y z u = true) (h2 : lineP s t p q = true) (hA : crs x y z u s t = 0) (hB : crs x y z u p q = 0) : Four (cB x y z u s t p q) (kB x y z u s t p q) := by
  obtain ⟨a1, b1, c1⟩ := line_iff.1 h1
  obtain ⟨a2, b2, c2⟩ := line_iff.1 h2
  have hD := len_pos c1
  have e0 : kB x y z u s t p q 0 = 0 := by show dotV x y z u x y = 0; rw [dotV_is a1 b1 a1]; exact key_a x y z u
  have e1 : kB x y z u s t p q 1 = len x y z u := by show dotV x y z u z u = _; rw [dotV_is a1 b1 b1]; rfl
  have e2 : kB x y z u s t p q 2 = dts x y z u s t := dotV_is a1 b1 a2
  have e3 : kB x y z u s t p q 3 = dts x y z u p q := dotV_is a1 b1 b2
  have f0 : cB x y z u s t p q 0 = true ↔ dts x y z u s t * dts x y z u p q ≤ 0 := by
    show (onV x y z u x y && onV s t p q x y) = true ↔ _
    rw [(on_end h1).1, Bool.true_and, onV_iff, ← on0 c1 hA hB]
    exact ⟨fun h => h.2.2, fun h => ⟨h2, a1, h⟩⟩
  have f1 : cB x y z u s t p q 1 = true ↔ (dts x y z u s t - len x y z u) * (dts x y z u p q - len x y z u) ≤ 0 := by
    show (onV x y z u z u && onV s t p q z u) = true ↔ _
    rw [(on_end h1).2, Bool.true_and, onV_iff, ← on1 c1 hA hB]
    exact ⟨fun h => h.2.2, fun h => ⟨h2, b1, h⟩⟩
  have f2 : cB x y z u s t p q 2 = true ↔ 0 ≤ dts x y z u s t ∧ dts x y z u s t ≤ len x y z u := by
    show (onV x y z u s t && onV s t p q s t) = true ↔ _
    rw [(on_end h2).1, Bool.and_true, onV_iff, ← on2 c1 hA]
    exact ⟨fun h => h.2.2, fun h => ⟨h1, a2, h⟩⟩
  have f3 : cB x y z u s t p q 3 = true ↔ 0 ≤ dts x y z u p q ∧ dts x y z u p q ≤ len x y z u := by
    show (onV x y z u p q && onV s t p q p q) = true ↔ _
    rw [(on_end h2).2, Bool.and_true, onV_iff, ← on2 c1 hB]
    exact ⟨fun h => h.2.2, fun h => ⟨h1, b2, h⟩⟩
  have hn := keys_ne c1 c2 hA hB
  have m1 := mul_sg (dts x y z u s t) (dts x y z u p q)
  have m2 := mul_sg (dts x y z u s t - len x y z u) (dts x y z u p q - len x y z u)
  generalize len x y z u = D at *
  generalize dts x y z u s t = A at *
  generalize dts x y z u p q = B at *
  generalize A * B = r1 at *
  generalize (A - D) * (B - D) = r2 at *
  refine ⟨by omega, by omega, ?_, ?_, ?_, ?_⟩
  · rw [f0, e0, e2, e3]; omega
  · rw [f1, e1, e2, e3]; omega
  · rw [f2, e0, e1, e2]
  · rw [f3, e0, e1, e3]
/-- all four ends are on the straight line, and points of the grid -/
theorem ends (h1 : lineP x y z u = true) (h2 : lineP s t p q = true) (hA : crs x y z u s t = 0) (hB : crs x y z u p q = 0) : ∀ j, j < 4 → crs x y z u (pk x z s p j) (pk y u t q j) = 0 ∧ mayP (pk x z s p j) (pk y u t q j) = true := by
  obtain ⟨a1, b1, c1⟩ := line_iff.1 h1
  obtain ⟨a2, b2, c2⟩ := line_iff.1 h2
  exact lt4 ⟨on_a.1, a1⟩ ⟨on_b.1, b1⟩ ⟨hA, a2⟩ ⟨hB, b2⟩
/-- ends that are as far along are the same -/
theorem ends_same (h1 : lineP x y z u = true) (h2 : lineP s t p q = true) (hA : crs x y z u s t = 0) (hB : crs x y z u p q = 0) {i j : Nat} (hi : i < 4) (hj : j < 4) (h : kB x y z u s t p q i = kB x y z u s t p q j) :
    pk x z s p i = pk x z s p j ∧ pk y u t q i = pk y u t q j := by
  obtain ⟨a1, b1, c1⟩ := line_iff.1 h1
  obtain ⟨g1, g2⟩ := ends h1 h2 hA hB i hi
  obtain ⟨g3, g4⟩ := ends h1 h2 hA hB j hj
  unfold kB at h
  rw [dotV_is a1 b1 g2, dotV_is a1 b1 g4] at h
  exact key_inj c1 g1 g3 h
theorem some_common (h : touchV x y z u s t p q = true) (h0 : crs x y z u s t = 0) (hB : crs x y z u p q = 0) : ∃ j, j < 4 ∧ cB x y z u s t p q j = true := by
  obtain ⟨h1, h2, h3⟩ := touch_tch h
  obtain ⟨a1, b1, c1⟩ := line_iff.1 h1
  obtain ⟨a2, b2, c2⟩ := line_iff.1 h2
  rcases h3 with h3 | h3 | h3 | h3 | h3
  · exact ⟨2, by omega, by show (onV x y z u s t && onV s t p q s t) = true; rw [(on_end h2).1, Bool.and_true, onV_iff]; exact ⟨h1, a2, h3⟩⟩
  · exact ⟨3, by omega, by show (onV x y z u p q && onV s t p q p q) = true; rw [(on_end h2).2, Bool.and_true, onV_iff]; exact ⟨h1, b2, h3⟩⟩
  · exact ⟨0, by omega, by show (onV x y z u x y && onV s t p q x y) = true; rw [(on_end h1).1, Bool.true_and, onV_iff]; exact ⟨h2, a1, h3⟩⟩
  · exact ⟨1, by omega, by show (onV x y z u z u && onV s t p q z u) = true; rw [(on_end h1).2, Bool.true_and, onV_iff]; exact ⟨h2, b1, h3⟩⟩
  · rw [h0, Int.zero_mul] at h3
    exact absurd h3.1 (Int.lt_irrefl 0)
end
end Go.Proofs.YtacicfmalhhceaaGreatDoor.MeW

/- How lines meet: along one straight line, seen from either line; what a meeting is. -/
namespace Go.Proofs.YtacicfmalhhceaaGreatDoor.MeW
open Go.RowKit
open KM PtM OrM PtW OrW MeM
section
variable {x y z u s t p q : Int}
theorem along_parts (h : alongV x y z u s t p q = true) : crs x y z u s t = 0 ∧ crs x y z u p q = 0 := (alongV_iff.1 h).2.2
/-- the first in common, and what is as the first -/
theorem first_common (h : touchV x y z u s t p q = true) (ha : alongV x y z u s t p q = true) : cB x y z u s t p q (fB x y z u s t p q 4) = true ∧ ∀ j, j < 4 → cB x y z u s t p q j = true → kB x y z u s t p q (fB x y z u s t p q 4) ≤ kB x y z u s t p q j := by
  obtain ⟨h1, h2, _⟩ := touch_tch h
  obtain ⟨hA, hB⟩ := along_parts ha
  exact (four h1 h2 hA hB).first (some_common h hA hB)
theorem last_common (h : touchV x y z u s t p q = true) (ha : alongV x y z u s t p q = true) : cB x y z u s t p q (lB x y z u s t p q 4) = true ∧ ∀ j, j < 4 → cB x y z u s t p q j = true → kB x y z u s t p q j ≤ kB x y z u s t p q (lB x y z u s t p q 4) := by
  obtain ⟨h1, h2, _⟩ := touch_tch h
  obtain ⟨hA, hB⟩ := along_parts ha
  exact (four h1 h2 hA hB).last (some_common h hA hB)
theorem fB_lt : fB x y z u s t p q 4 < 4 := fI_lt 4 (by omega)
theorem lB_lt : lB x y z u s t p q 4 < 4 := lI_lt 4 (by omega)
theorem as_first (h : touchV x y z u s t p q = true) (ha : alongV x y z u s t p q = true) {i : Nat} (hi : i < 4) (hc : cB x y z u s t p q i = true) (hm : ∀ j, j < 4 → cB x y z u s t p q j = true → kB x y z u s t p q i ≤ kB x y z u s t p q j) :
    pk x z s p i = pk x z s p (fB x y z u s t p q 4) ∧ pk y u t q i = pk y u t q (fB x y z u s t p q 4) := by
  obtain ⟨h1, h2, _⟩ := touch_tch h
  obtain ⟨hA, hB⟩ := along_parts ha
  obtain ⟨f1, f2⟩ := first_common h ha
  have g1 := f2 i hi hc
  have g2 := hm _ fB_lt f1
  exact ends_same h1 h2 hA hB hi fB_lt (by omega)
theorem as_last (h : touchV x y z u s t p q = true) (ha : alongV x y z u s t p q = true) {i : Nat} (hi : i < 4) (hc : cB x y z u s t p q i = true) (hm : ∀ j, j < 4 → cB x y z u s t p q j = true → kB x y z u s t p q j ≤ kB x y z u s t p q i) :
    pk x z s p i = pk x z s p (lB x y z u s t p q 4) ∧ pk y u t q i = pk y u t q (lB x y z u s t p q 4) := by
  obtain ⟨h1, h2, _⟩ := touch_tch h
  obtain ⟨hA, hB⟩ := along_parts ha
  obtain ⟨f1, f2⟩ := last_common h ha
  have g1 := f2 i hi hc
  have g2 := hm _ lB_lt f1
  exact ends_same h1 h2 hA hB hi lB_lt (by omega)
theorem key_of {i j : Nat} (hx : pk x z s p i = pk x z s p j) (hy : pk y u t q i = pk y u t q j) : kB x y z u s t p q i = kB x y z u s t p q j := by unfold kB; rw [hx, hy]
/-- one point alone: an end of both -/
theorem sole_end (h : touchV x y z u s t p q = true) (ha : alongV x y z u s t p q = true)
    (hx : pk x z s p (fB x y z u s t p q 4) = pk x z s p (lB x y z u s t p q 4)) (hy : pk y u t q (fB x y z u s t p q 4) = pk y u t q (lB x y z u s t p q 4)) :
    ((pk x z s p (fB x y z u s t p q 4) = x ∧ pk y u t q (fB x y z u s t p q 4) = y) ∨ (pk x z s p (fB x y z u s t p q 4) = z ∧ pk y u t q (fB x y z u s t p q 4) = u)) ∧
    ((pk x z s p (fB x y z u s t p q 4) = s ∧ pk y u t q (fB x y z u s t p q 4) = t) ∨ (pk x z s p (fB x y z u s t p q 4) = p ∧ pk y u t q (fB x y z u s t p q 4) = q)) := by
  obtain ⟨h1, h2, _⟩ := touch_tch h
  obtain ⟨hA, hB⟩ := along_parts ha
  obtain ⟨f1, f2⟩ := first_common h ha
  obtain ⟨l1, l2⟩ := last_common h ha
  have hk := key_of hx hy
  obtain ⟨g1, g2⟩ := (four h1 h2 hA hB).sole fB_lt f1 (fun j hj hc => by have := f2 j hj hc; have := l2 j hj hc; omega)
  constructor
  · rcases g1 with g | g
    · exact .inl (ends_same h1 h2 hA hB fB_lt (by omega : 0 < 4) g)
    · exact .inr (ends_same h1 h2 hA hB fB_lt (by omega : 1 < 4) g)
  · rcases g2 with g | g
    · exact .inl (ends_same h1 h2 hA hB fB_lt (by omega : 2 < 4) g)
    · exact .inr (ends_same h1 h2 hA hB fB_lt (by omega : 3 < 4) g)
theorem end_is {x y z u X Y : Int} (hd : ¬(x = z ∧ y = u)) (h : (X = x ∧ Y = y) ∨ (X = z ∧ Y = u)) : (if (X == z && Y == u) = true then (1 : Int) else 0) = endV x y X Y := by
  unfold endV
  simp only [Bool.and_eq_true, beq_iff_eq]
  split <;> split <;> omega
theorem flat_same (h : touchV x y z u s t p q = true) (ha : alongV x y z u s t p q = true) :
    refS z u p q (pk x z s p (gB x y z u s t p q 4).2.1) (pk y u t q (gB x y z u s t p q 4).2.1) (pk x z s p (gB x y z u s t p q 4).2.2) (pk y u t q (gB x y z u s t p q 4).2.2) = flatM x y z u s t p q := by
  obtain ⟨h1, h2, _⟩ := touch_tch h
  obtain ⟨_, _, c1⟩ := line_iff.1 h1
  obtain ⟨_, _, c2⟩ := line_iff.1 h2
  obtain ⟨hA, hB⟩ := along_parts ha
  have H := four h1 h2 hA hB
  rcases gI_same H.within 4 (by omega) with ⟨_, _, _, hn⟩ | ⟨_, g1, g2, g3, g4⟩
  · obtain ⟨j, hj, hc⟩ := some_common h hA hB
    rw [hn j hj] at hc; cases hc
  · obtain ⟨e1, e2⟩ := ends_same h1 h2 hA hB g3 fB_lt g1
    obtain ⟨e3, e4⟩ := ends_same h1 h2 hA hB g4 lB_lt g2
    unfold flatM
    rw [e1, e2, e3, e4]
    have hs := sole_end h ha
    generalize pk x z s p (fB x y z u s t p q 4) = FX at *
    generalize pk y u t q (fB x y z u s t p q 4) = FY at *
    generalize pk x z s p (lB x y z u s t p q 4) = LX at *
    generalize pk y u t q (lB x y z u s t p q 4) = LY at *
    unfold refS strM
    by_cases hE : FX = LX ∧ FY = LY
    · obtain ⟨s1, s2⟩ := hs hE.1 hE.2
      rw [if_pos (show (FX == LX && FY == LY) = true by simp [hE]), end_is c1 s1, end_is c2 s2]
      rw [if_pos (show (FX == LX && FY == LY) = true by simp [hE])]
    · rw [if_neg (show ¬(FX == LX && FY == LY) = true by simpa using hE)]
      rw [if_neg (show ¬(FX == LX && FY == LY) = true by simpa using hE)]
/-- the same meeting, the lines exchanged -/
def turnM (m : MT) : MT := ⟨m.k, m.m, m.n, m.e, m.x, m.y, m.z, m.u⟩
def sw : Nat → Nat
  | 0 => 2
  | 1 => 3
  | 2 => 0
  | 3 => 1
  | j => j
theorem sw_lt : ∀ j, j < 4 → sw j < 4 := lt4 (by decide) (by decide) (by decide) (by decide)
theorem sw_sw : ∀ j, j < 4 → sw (sw j) = j := lt4 rfl rfl rfl rfl
theorem pk_sw (a b c d : Int) : ∀ j, j < 4 → pk c d a b j = pk a b c d (sw j) := lt4 rfl rfl rfl rfl
theorem cB_sw : ∀ j, j < 4 → cB s t p q x y z u j = cB x y z u s t p q (sw j) := fun j hj => by
  unfold cB; rw [pk_sw x z s p j hj, pk_sw y u t q j hj, Bool.and_comm]
theorem kB_sw (h2 : lineP s t p q = true) : ∀ j, j < 4 → mayP (pk x z s p (sw j)) (pk y u t q (sw j)) = true → kB s t p q x y z u j = dts s t p q (pk x z s p (sw j)) (pk y u t q (sw j)) := fun j hj hm => by
  obtain ⟨a2, b2, c2⟩ := line_iff.1 h2
  unfold kB; rw [pk_sw x z s p j hj, pk_sw y u t q j hj, dotV_is a2 b2 hm]
/-- the first and the last, seen from the other line -/
theorem other_ends (h : touchV x y z u s t p q = true) (ha : alongV x y z u s t p q = true) :
    ((pk s p x z (fB s t p q x y z u 4) = pk x z s p (fB x y z u s t p q 4) ∧ pk t q y u (fB s t p q x y z u 4) = pk y u t q (fB x y z u s t p q 4)) ∧
      (pk s p x z (lB s t p q x y z u 4) = pk x z s p (lB x y z u s t p q 4) ∧ pk t q y u (lB s t p q x y z u 4) = pk y u t q (lB x y z u s t p q 4))) ∨
    ((pk s p x z (fB s t p q x y z u 4) = pk x z s p (lB x y z u s t p q 4) ∧ pk t q y u (fB s t p q x y z u 4) = pk y u t q (lB x y z u s t p q 4)) ∧
      (pk s p x z (lB s t p q x y z u 4) = pk x z s p (fB x y z u s t p q 4) ∧ pk t q y u (lB s t p q x y z u 4) = pk y u t q (fB x y z u s t p q 4))) := by
  obtain ⟨h1, h2, _⟩ := touch_tch h
  obtain ⟨a1, b1, c1⟩ := line_iff.1 h1
  obtain ⟨_, _, c2⟩ := line_iff.1 h2
  obtain ⟨hA, hB⟩ := along_parts ha
  have h' : touchV s t p q x y z u = true := by rw [touch_comm]; exact h
  have ha' : alongV s t p q x y z u = true := by rw [along_comm]; exact ha
  obtain ⟨f1, f2⟩ := first_common h' ha'
  obtain ⟨l1, l2⟩ := last_common h' ha'
  have E := ends h1 h2 hA hB
  have fl : fB s t p q x y z u 4 < 4 := fB_lt
  have ll : lB s t p q x y z u 4 < 4 := lB_lt
  rw [pk_sw x z s p _ fl, pk_sw y u t q _ fl, pk_sw x z s p _ ll, pk_sw y u t q _ ll]
  generalize fB s t p q x y z u 4 = F at *
  generalize lB s t p q x y z u 4 = L at *
  rw [cB_sw F fl] at f1
  rw [cB_sw L ll] at l1
  have key : ∀ i, i < 4 → kB x y z u s t p q i = dts x y z u (pk x z s p i) (pk y u t q i) := fun i hi => by unfold kB; exact dotV_is a1 b1 (E i hi).2
  have K : ∀ i, i < 4 → ∀ j, j < 4 →
      (dts x y z u s t < dts x y z u p q → (kB s t p q x y z u i ≤ kB s t p q x y z u j ↔ kB x y z u s t p q (sw i) ≤ kB x y z u s t p q (sw j))) ∧
      (dts x y z u p q < dts x y z u s t → (kB s t p q x y z u i ≤ kB s t p q x y z u j ↔ kB x y z u s t p q (sw j) ≤ kB x y z u s t p q (sw i))) := fun i hi j hj => by
    obtain ⟨i1, i2⟩ := E (sw i) (sw_lt i hi)
    obtain ⟨j1, j2⟩ := E (sw j) (sw_lt j hj)
    rw [kB_sw h2 i hi i2, kB_sw h2 j hj j2, key _ (sw_lt i hi), key _ (sw_lt j hj)]
    exact key_order c1 hA hB i1 j1
  have hn := keys_ne c1 c2 hA hB
  have up : ∀ j, j < 4 → cB x y z u s t p q j = true → kB s t p q x y z u F ≤ kB s t p q x y z u (sw j) := fun j hj hc => f2 (sw j) (sw_lt j hj) (by rw [cB_sw _ (sw_lt j hj), sw_sw j hj]; exact hc)
  have dn : ∀ j, j < 4 → cB x y z u s t p q j = true → kB s t p q x y z u (sw j) ≤ kB s t p q x y z u L := fun j hj hc => l2 (sw j) (sw_lt j hj) (by rw [cB_sw _ (sw_lt j hj), sw_sw j hj]; exact hc)
  rcases Int.lt_or_gt_of_ne hn with hl | hl
  · left
    constructor
    · refine as_first h ha (sw_lt F fl) f1 fun j hj hc => ?_
      have := ((K F fl (sw j) (sw_lt j hj)).1 hl).1 (up j hj hc)
      rwa [sw_sw j hj] at this
    · refine as_last h ha (sw_lt L ll) l1 fun j hj hc => ?_
      have := ((K (sw j) (sw_lt j hj) L ll).1 hl).1 (dn j hj hc)
      rwa [sw_sw j hj] at this
  · right
    constructor
    · refine as_last h ha (sw_lt F fl) f1 fun j hj hc => ?_
      have := ((K F fl (sw j) (sw_lt j hj)).2 hl).1 (up j hj hc)
      rwa [sw_sw j hj] at this
    · refine as_first h ha (sw_lt L ll) l1 fun j hj hc => ?_
      have := ((K (sw j) (sw_lt j hj) L ll).2 hl).1 (dn j hj hc)
      rwa [sw_sw j hj] at this
end
end Go.Proofs.YtacicfmalhhceaaGreatDoor.MeW

/- How lines meet: what follows. -/
namespace Go.Proofs.YtacicfmalhhceaaGreatDoor.MeW
open Go.RowKit
open KM PtM OrM PtW OrW MeM
section
variable {x y z u s t p q : Int}
theorem one_ne : (1 : Int) ≠ 0 ∧ (2 : Int) ≠ 0 ∧ (1 : Int) ≠ 2 := by decide
theorem str_kind (x y s t FX FY LX LY : Int) : (strM x y s t FX FY LX LY).k ≠ 0 := by
  unfold strM
  split
  · exact one_ne.1
  · exact one_ne.2.1
theorem meet_kind (x y z u s t p q : Int) : ((meetM x y z u s t p q).k != 0) = touchV x y z u s t p q := by
  unfold meetM
  cases h : touchV x y z u s t p q with
  | false => rw [if_neg (by decide)]; rfl
  | true =>
    rw [if_pos rfl]
    split
    · rw [bne_iff_ne]; exact str_kind x y s t _ _ _ _
    · rfl
theorem ab_nn (n : Int) : 0 ≤ ab n := by unfold ab; omega
theorem end_bd (x y X Y : Int) : 0 ≤ endV x y X Y ∧ endV x y X Y ≤ 1 := by unfold endV; split <;> omega
theorem end_at {x y z u X Y : Int} (h : (X = x ∧ Y = y) ∨ (X = z ∧ Y = u)) : x * 1 + (z - x) * endV x y X Y = X := by
  unfold endV
  simp only [Bool.and_eq_true, beq_iff_eq]
  split <;> omega
theorem cross_swap (h : touchV x y z u s t p q = true) (h0 : dd x y z u s t p q ≠ 0) : ab (crossV s t p q x y) + ab (crossV s t p q z u) = ab (crossV x y z u s t) + ab (crossV x y z u p q) := by
  obtain ⟨h1, h2, h3⟩ := touch_tch h
  obtain ⟨a1, b1, c1⟩ := line_iff.1 h1
  obtain ⟨a2, b2, c2⟩ := line_iff.1 h2
  obtain ⟨s1, s2⟩ := tch_sides c1 c2 h3
  obtain ⟨k1, k2⟩ := cross_abs s1 s2
  rw [crossV_is a2 b2 a1, crossV_is a2 b2 b1, crossV_is a1 b1 a2, crossV_is a1 b1 b2]
  rcases Int.lt_or_gt_of_ne h0 with hn | hn
  · obtain ⟨_, e2, _, e4⟩ := k2 hn; rw [e2, e4]
  · obtain ⟨_, e2, _, e4⟩ := k1 hn; rw [e2, e4]
/-- seen from the other line -/
theorem meet_other (x y z u s t p q : Int) :
    ((meetM x y z u s t p q).k ≠ 2 ∧ meetM s t p q x y z u = turnM (meetM x y z u s t p q) ∧ 0 ≤ (meetM x y z u s t p q).n ∧ (meetM x y z u s t p q).n ≤ (meetM x y z u s t p q).e ∧ 0 ≤ (meetM x y z u s t p q).m ∧ (meetM x y z u s t p q).m ≤ (meetM x y z u s t p q).e) ∨
    ((meetM x y z u s t p q).k = 2 ∧ (meetM s t p q x y z u).k = 2 ∧
      (((meetM s t p q x y z u).x = (meetM x y z u s t p q).x ∧ (meetM s t p q x y z u).y = (meetM x y z u s t p q).y ∧ (meetM s t p q x y z u).z = (meetM x y z u s t p q).z ∧ (meetM s t p q x y z u).u = (meetM x y z u s t p q).u) ∨
       ((meetM s t p q x y z u).x = (meetM x y z u s t p q).z ∧ (meetM s t p q x y z u).y = (meetM x y z u s t p q).u ∧ (meetM s t p q x y z u).z = (meetM x y z u s t p q).x ∧ (meetM s t p q x y z u).u = (meetM x y z u s t p q).y)) ∧
      ¬((meetM x y z u s t p q).x = (meetM x y z u s t p q).z ∧ (meetM x y z u s t p q).y = (meetM x y z u s t p q).u)) := by
  unfold meetM
  rw [touch_comm x y z u s t p q, along_comm x y z u s t p q]
  cases h : touchV x y z u s t p q with
  | false => rw [if_neg (by decide), if_neg (by decide)]; exact .inl ⟨by decide, rfl, by decide, by decide, by decide, by decide⟩
  | true =>
    rw [if_pos rfl, if_pos rfl]
    cases ha : alongV x y z u s t p q with
    | false =>
      have h0 : dd x y z u s t p q ≠ 0 := fun e => by rw [(along_dd h).2 e] at ha; cases ha
      rw [if_neg (by decide), if_neg (by decide)]
      refine .inl ⟨one_ne.2.2, ?_, ab_nn _, ?_, ab_nn _, ?_⟩
      · unfold crossM turnM; dsimp only; rw [cross_swap h h0]
      · show ab _ ≤ ab _ + ab _; have := ab_nn (crossV s t p q z u); omega
      · show ab _ ≤ ab _ + ab _; rw [cross_swap h h0]; have := ab_nn (crossV x y z u p q); omega
    | true =>
      rw [if_pos rfl, if_pos rfl]
      have ho := other_ends h ha
      unfold flatM
      generalize pk x z s p (fB x y z u s t p q 4) = FX at *
      generalize pk y u t q (fB x y z u s t p q 4) = FY at *
      generalize pk x z s p (lB x y z u s t p q 4) = LX at *
      generalize pk y u t q (lB x y z u s t p q 4) = LY at *
      generalize pk s p x z (fB s t p q x y z u 4) = FX' at *
      generalize pk t q y u (fB s t p q x y z u 4) = FY' at *
      generalize pk s p x z (lB s t p q x y z u 4) = LX' at *
      generalize pk t q y u (lB s t p q x y z u 4) = LY' at *
      unfold strM
      by_cases hE : FX = LX ∧ FY = LY
      · obtain ⟨rfl, rfl⟩ := hE
        obtain ⟨⟨rfl, rfl⟩, rfl, rfl⟩ : (FX' = FX ∧ FY' = FY) ∧ LX' = FX ∧ LY' = FY := by rcases ho with h | h <;> exact h
        rw [if_pos (by simp), if_pos (by simp)]
        exact .inl ⟨one_ne.2.2, rfl, (end_bd ..).1, (end_bd ..).2, (end_bd ..).1, (end_bd ..).2⟩
      · rw [if_neg (show ¬(FX == LX && FY == LY) = true by simpa using hE), if_neg (show ¬(FX' == LX' && FY' == LY') = true by simp only [Bool.and_eq_true, beq_iff_eq]; omega)]
        refine .inr ⟨rfl, rfl, ?_, hE⟩
        dsimp only
        rcases ho with ⟨⟨a, b⟩, c, d⟩ | ⟨⟨a, b⟩, c, d⟩
        · exact .inl ⟨a, b, c, d⟩
        · exact .inr ⟨a, b, c, d⟩
/-- lines that meet in a point: where it is along both -/
theorem meet_place (hk : (meetM x y z u s t p q).k = 1) : lineP x y z u = true ∧ lineP s t p q = true ∧ (0 < (meetM x y z u s t p q).e ∧ (meetM x y z u s t p q).e ≤ 4611686018427387904) ∧
    x * (meetM x y z u s t p q).e + (z - x) * (meetM x y z u s t p q).n = s * (meetM x y z u s t p q).e + (p - s) * (meetM x y z u s t p q).m := by
  revert hk
  unfold meetM
  cases h : touchV x y z u s t p q with
  | false => rw [if_neg (by decide)]; intro hk; cases hk
  | true =>
    obtain ⟨h1, h2, h3⟩ := touch_tch h
    obtain ⟨a1, b1, c1⟩ := line_iff.1 h1
    obtain ⟨a2, b2, c2⟩ := line_iff.1 h2
    obtain ⟨s1, s2⟩ := tch_sides c1 c2 h3
    obtain ⟨k1, k2⟩ := cross_abs s1 s2
    rw [if_pos rfl]
    cases ha : alongV x y z u s t p q with
    | false =>
      have h0 : dd x y z u s t p q ≠ 0 := fun e => by rw [(along_dd h).2 e] at ha; cases ha
      rw [if_neg (by decide)]
      intro _
      refine ⟨h1, h2, ?_, ?_⟩
      · have g1 := crossV_bd s t p q x y
        have g2 := crossV_bd s t p q z u
        have g3 : ab (crossV s t p q x y) + ab (crossV s t p q z u) ≠ 0 := by
          rw [crossV_is a2 b2 a1, crossV_is a2 b2 b1]
          rcases Int.lt_or_gt_of_ne h0 with hn | hn
          · obtain ⟨_, e2, _⟩ := k2 hn; omega
          · obtain ⟨_, e2, _⟩ := k1 hn; omega
        show 0 < ab _ + ab _ ∧ ab _ + ab _ ≤ _
        generalize crossV s t p q x y = e1 at *
        generalize crossV s t p q z u = e2 at *
        clear k1 k2 s1 s2
        unfold ab at *
        omega
      · show x * (ab _ + ab _) + (z - x) * ab _ = s * (ab _ + ab _) + (p - s) * ab _
        rw [crossV_is a2 b2 a1, crossV_is a2 b2 b1, crossV_is a1 b1 a2]
        have hc := cross_at x y z u s t p q
        rcases Int.lt_or_gt_of_ne h0 with hn | hn
        · obtain ⟨e1, e2, e3, _⟩ := k2 hn
          rw [e2, e1, e3]
          generalize dd x y z u s t p q = d at *
          generalize crs s t p q x y = C at *
          generalize crs x y z u s t = A at *
          clear k1 k2 s1 s2 e1 e2 e3
          grind
        · obtain ⟨e1, e2, e3, _⟩ := k1 hn
          rw [e2, e1, e3]
          exact hc
    | true =>
      rw [if_pos rfl]
      have hs := sole_end h ha
      unfold flatM
      generalize pk x z s p (fB x y z u s t p q 4) = FX at *
      generalize pk y u t q (fB x y z u s t p q 4) = FY at *
      generalize pk x z s p (lB x y z u s t p q 4) = LX at *
      generalize pk y u t q (lB x y z u s t p q 4) = LY at *
      unfold strM
      by_cases hE : FX = LX ∧ FY = LY
      · obtain ⟨e1, e2⟩ := hs hE.1 hE.2
        rw [if_pos (show (FX == LX && FY == LY) = true by simp [hE])]
        intro _
        exact ⟨h1, h2, ⟨(by omega : (0 : Int) < 1), (by omega : (1 : Int) ≤ 4611686018427387904)⟩, (end_at e1).trans (end_at e2).symm⟩
      · rw [if_neg (show ¬(FX == LX && FY == LY) = true by simpa using hE)]
        intro hk; cases hk
end
end Go.Proofs.YtacicfmalhhceaaGreatDoor.MeW

/- package meet: the point of the grid at which lines meet. -/
namespace RatM
theorem low_div {Z : Int} {D q : Nat} (hD : 0 < D) (h : Z.natAbs = q * D) : lowD Z D = 1 ∧ lowN Z D * D = Z := by
  have h1 : lowD Z D = 1 := by
    unfold lowD
    rw [h, Nat.gcd_eq_right (Nat.dvd_mul_left D q), Nat.div_self hD]
  refine ⟨h1, ?_⟩
  rw [low_value, h1]; simp
theorem low_ndiv {Z : Int} {D : Nat} (h : ¬D ∣ Z.natAbs) : lowD Z D ≠ 1 := fun h1 => by
  have h2 := lowD_mul (z := Z) (d := D)
  rw [h1, Nat.one_mul] at h2
  exact h (by rw [← h2]; exact Nat.dvd_trans (by rw [h2]; exact Nat.dvd_refl D) (by rw [← h2]; exact Nat.gcd_dvd_left _ _))
end RatM
namespace Go.Proofs.YtacicfmalhhceaaGreatDoor.MeW
open Go.RowKit
open KM PtM OrM PtW OrW MeM RatM
theorem mul_ret (a b : Nat) (ha : a < 18446744073709551616) (hb : b < 18446744073709551616) : ∃ h l : Nat, (h < 18446744073709551616 ∧ l < 18446744073709551616 ∧ h * 18446744073709551616 + l = a * b) ∧ ∀ w, Calls Tryz.prog 130 #[.int .u64 a, .int .u64 b] w (Ret (.tuple #[.int .u64 h, .int .u64 l]) w) := by
  have hlt : a * b / 18446744073709551616 < 18446744073709551616 := by
    have := Nat.mul_lt_mul_of_lt_of_le ha (Nat.le_of_lt hb) (by decide)
    omega
  have hd := Nat.div_add_mod (a * b) 18446744073709551616
  have hm := Nat.mod_lt (a * b) (show 0 < 18446744073709551616 by decide)
  refine ⟨a * b / 18446744073709551616, a * b % 18446744073709551616, ⟨hlt, hm, by omega⟩, fun w => ?_⟩
  refine (DigW.mul_any a b w (Lib.hid ha) (Lib.hid hb)).mono ?_
  rintro e w' ⟨h, l, rfl, hh, rfl⟩
  obtain ⟨h1, h2, h3⟩ := hh.out
  refine ⟨?_, Below.refl _ _⟩
  rw [show h = a * b / 18446744073709551616 by omega, show l = a * b % 18446744073709551616 by omega]
theorem div_ret (a b y : Nat) (h : a < y) (hb : b < 18446744073709551616) (hy : y < 18446744073709551616) : ∃ q r : Nat, (q < 18446744073709551616 ∧ r < y ∧ q * y + r = a * 18446744073709551616 + b) ∧ ∀ w, Calls Tryz.prog 95 #[.int .u64 a, .int .u64 b, .int .u64 y] w (Ret (.tuple #[.int .u64 q, .int .u64 r, .bool true]) w) := by
  have hpos : 0 < y := by omega
  have e1 := Nat.div_add_mod (a * 18446744073709551616 + b) y
  have e2 := Nat.mod_lt (a * 18446744073709551616 + b) hpos
  have hq : (a * 18446744073709551616 + b) / y < 18446744073709551616 := by
    rw [Nat.div_lt_iff_lt_mul hpos]
    have : (a + 1) * 18446744073709551616 ≤ y * 18446744073709551616 := Nat.mul_le_mul_right _ h
    rw [Nat.mul_comm 18446744073709551616 y]
    omega
  refine ⟨(a * 18446744073709551616 + b) / y, (a * 18446744073709551616 + b) % y, ⟨hq, e2, by rw [Nat.mul_comm]; exact e1⟩, fun w => ?_⟩
  refine (DigW.div_yes a b y w h (Lib.hid hb) (Lib.hid hy)).mono ?_
  rintro e w' ⟨q, r, rfl, hh, n, rfl⟩
  obtain ⟨_, h2, h3⟩ := hh.out
  obtain ⟨rfl, rfl⟩ : q = (a * 18446744073709551616 + b) / y ∧ r = (a * 18446744073709551616 + b) % y := by
    rw [← h3]
    constructor
    · rw [Nat.mul_comm, Nat.mul_add_div hpos, Nat.div_eq_of_lt h2, Nat.add_zero]
    · rw [Nat.mul_comm, Nat.mul_add_mod, Nat.mod_eq_of_lt h2]
  exact ⟨rfl, below_drewN (Below.refl _ _) n⟩
/-- how far, and whether that is a whole number -/
def partO (Z : Int) (D : Nat) : Bool := decide (lowD Z D = 1)
def partN (f Z : Int) (D : Nat) : Int := if partO Z D = true then f + lowN Z D else 0
/-- a place along a line that may be -/
def placeB (k n e : Int) (x y z u : Int) : Bool := k == 1 && (!decide (e < 1) && (!decide (n < 0) && (!decide (e < n) && lineP x y z u)))
end Go.Proofs.YtacicfmalhhceaaGreatDoor.MeW

/- The document's layer 9: parts as fractions. -/
namespace RatM
/-- fractions that are worth the same are the same in lowest terms -/
theorem low_eq {z y : Int} {d e : Nat} (hd : 0 < d) (he : 0 < e) (h : z * e = y * d) : lowN z d = lowN y e ∧ lowD z d = lowD y e := by
  refine terms_unique (low_terms hd) (low_terms he) ?_
  have h1 := low_value z d
  have h2 := low_value y e
  generalize lowN z d = n at *
  generalize lowD z d = D at *
  generalize lowN y e = m at *
  generalize lowD y e = E at *
  have hde : ((d : Int) * e) ≠ 0 := Int.mul_ne_zero (by omega) (by omega)
  refine Int.eq_of_mul_eq_mul_right hde ?_
  have a1 : n * E * (d * e) = z * D * E * e := by rw [← h1]; ac_rfl
  have a2 : m * D * (d * e) = y * E * D * d := by rw [← h2]; ac_rfl
  rw [a1, a2, show z * D * E * e = z * e * (D * E) by ac_rfl, h]
  ac_rfl
/-- the sum of a fraction in lowest terms and a whole number -/
theorem low_sum {Z X : Int} {D : Nat} (hD : 0 < D) : (lowN Z D * ((1 : Nat) : Int) + X * (lowD Z D : Int)) * D = (Z + X * D) * (lowD Z D * 1 : Nat) := by
  have h1 := low_value Z D
  generalize lowN Z D = n at *
  generalize lowD Z D = E at *
  rw [Nat.mul_one, Int.natCast_one, Int.mul_one, Int.add_mul, h1, Int.add_mul]
  ac_rfl
end RatM
namespace Go.Proofs.YtacicfmalhhceaaGreatDoor.MeW
open Go.RowKit
open KM PtM OrM PtW OrW MeM RatM WideM WideV WideW SignM SignW RatW DigM
set_option maxRecDepth 100000 in
@[simp] theorem fieldMag (s : Bool) (n : Nat) (w : World) : (Instr.field 26 (.agg (ic s n)) 1).run Tryz.prog w = .ok (wv n) w :=
  run_field (by kernel_rfl) (tf := 24) (o := 1) (by kernel_rfl) (fun w => part_row (by rw [cells_size]; exact rowW) (by kernel_rfl) w) w
/-- a fraction in lowest terms -/
def frV (Z : Int) (D : Nat) : Value := rv (ng (lowN Z D)) (lowN Z D).natAbs (lowD Z D)
theorem lowV_fr {Z : Int} {D : Nat} (hD : 0 < D) : lowV (ng Z) Z.natAbs D = frV Z D := by
  have hg := gcd_pos (z := Z) hD
  have hN : sg (ng Z) (Z.natAbs / Nat.gcd Z.natAbs D) = lowN Z D := by
    have h1 := lowN_mul (z := Z) (d := D)
    have h2 := Nat.div_mul_cancel (Nat.gcd_dvd_left Z.natAbs D)
    have h3 := sg_ng Z
    unfold lowN at *
    generalize Nat.gcd Z.natAbs D = g at *
    generalize Z.natAbs / g = k at *
    have h4 : sg (ng Z) k * (g : Int) = Z := by
      rw [← h2] at h3
      refine Eq.trans ?_ h3
      cases ng Z <;> simp [sg, Int.neg_mul]
    refine Int.eq_of_mul_eq_mul_right (show (g : Int) ≠ 0 by omega) ?_
    rw [h4, h1]
  unfold frV
  show rv (ng (sg (ng Z) (Z.natAbs / Nat.gcd Z.natAbs D))) (sg (ng Z) (Z.natAbs / Nat.gcd Z.natAbs D)).natAbs (D / Nat.gcd Z.natAbs D) = _
  rw [hN]
  rfl
theorem bl_le {n k : Nat} (h : n < 2 ^ k) : bl n ≤ k := by
  have hb := (bl_BL n).2
  generalize bl n = j at *
  refine Nat.le_of_not_lt fun hl => ?_
  have h1 := hb (by omega)
  have h2 : 2 ^ k ≤ 2 ^ (j - 1) := Nat.pow_le_pow_right (by omega) (by omega)
  omega
theorem pow_M {n k : Nat} (h : n < 2 ^ k) (hk : k ≤ 512) : n < M := by
  obtain ⟨e, he⟩ : ∃ e, e = 512 := ⟨_, rfl⟩
  rw [M_two e he]
  exact Nat.lt_of_lt_of_le h (Nat.pow_le_pow_right (by decide) (by omega))
/-- a fraction in lowest terms may be -/
theorem fr_may {z : Int} {d : Nat} (h : Terms z d) (hz : z.natAbs < 2 ^ 120) (hd : d < 2 ^ 120) : mayB (ng z) z.natAbs d = true := by
  unfold mayB smallB termsB
  rw [Bool.and_eq_true]
  refine ⟨decide_eq_true ⟨bl_le hz, bl_le hd⟩, decide_eq_true ⟨by have := h.1; omega, ?_, h.2⟩⟩
  have := ng_sg (ng z) z.natAbs
  rw [sg_ng] at this
  exact this.symm
theorem lowN_le {Z : Int} {D : Nat} : (lowN Z D).natAbs ≤ Z.natAbs := by rw [lowN_abs]; exact Nat.div_le_self _ _
theorem lowD_le {Z : Int} {D : Nat} : lowD Z D ≤ D := Nat.div_le_self _ _
end Go.Proofs.YtacicfmalhhceaaGreatDoor.MeW

