/-
  How lines meet: along one straight line, seen from either line; what a meeting is.
-/
import Derived.Test.YtoahcjjndjdljaaMeEq
namespace Go.Proofs.Ytoahcjjndjdljaa.MeW
open Go.RowKit
open KM PtM OrM PtW OrW MeM
section
variable {x y z u s t p q : Int}
theorem along_parts (h : alongV x y z u s t p q = true) : crs x y z u s t = 0 ∧ crs x y z u p q = 0 := (alongV_iff.1 h).2.2
/-- the first in common, and what is as the first -/
theorem first_common (h : touchV x y z u s t p q = true) (ha : alongV x y z u s t p q = true) : cB x y z u s t p q (fB x y z u s t p q 4) = true ∧ ∀ j, j < 4 → cB x y z u s t p q j = true → kB x y z u s t p q (fB x y z u s t p q 4) ≤ kB x y z u s t p q j := by
  obtain ⟨h1, h2, _⟩ := touch_tch h
  obtain ⟨hA, hB⟩ := along_parts ha
  exact (four h1 h2 hA hB).first (some_common h hA hB)
theorem last_common (h : touchV x y z u s t p q = true) (ha : alongV x y z u s t p q = true) : cB x y z u s t p q (lB x y z u s t p q 4) = true ∧ ∀ j, j < 4 → cB x y z u s t p q j = true → kB x y z u s t p q j ≤ kB x y z u s t p q (lB x y z u s t p q 4) := by
  obtain ⟨h1, h2, _⟩ := touch_tch h
  obtain ⟨hA, hB⟩ := along_parts ha
  exact (four h1 h2 hA hB).last (some_common h hA hB)
theorem fB_lt : fB x y z u s t p q 4 < 4 := fI_lt 4 (by omega)
theorem lB_lt : lB x y z u s t p q 4 < 4 := lI_lt 4 (by omega)
theorem as_first (h : touchV x y z u s t p q = true) (ha : alongV x y z u s t p q = true) {i : Nat} (hi : i < 4) (hc : cB x y z u s t p q i = true) (hm : ∀ j, j < 4 → cB x y z u s t p q j = true → kB x y z u s t p q i ≤ kB x y z u s t p q j) :
    pk x z s p i = pk x z s p (fB x y z u s t p q 4) ∧ pk y u t q i = pk y u t q (fB x y z u s t p q 4) := by
  obtain ⟨h1, h2, _⟩ := touch_tch h
  obtain ⟨hA, hB⟩ := along_parts ha
  obtain ⟨f1, f2⟩ := first_common h ha
  have g1 := f2 i hi hc
  have g2 := hm _ fB_lt f1
  exact ends_same h1 h2 hA hB hi fB_lt (by omega)
theorem as_last (h : touchV x y z u s t p q = true) (ha : alongV x y z u s t p q = true) {i : Nat} (hi : i < 4) (hc : cB x y z u s t p q i = true) (hm : ∀ j, j < 4 → cB x y z u s t p q j = true → kB x y z u s t p q j ≤ kB x y z u s t p q i) :
    pk x z s p i = pk x z s p (lB x y z u s t p q 4) ∧ pk y u t q i = pk y u t q (lB x y z u s t p q 4) := by
  obtain ⟨h1, h2, _⟩ := touch_tch h
  obtain ⟨hA, hB⟩ := along_parts ha
  obtain ⟨f1, f2⟩ := last_common h ha
  have g1 := f2 i hi hc
  have g2 := hm _ lB_lt f1
  exact ends_same h1 h2 hA hB hi lB_lt (by omega)
theorem key_of {i j : Nat} (hx : pk x z s p i = pk x z s p j) (hy : pk y u t q i = pk y u t q j) : kB x y z u s t p q i = kB x y z u s t p q j := by unfold kB; rw [hx, hy]
/-- one point alone: an end of both -/
theorem sole_end (h : touchV x y z u s t p q = true) (ha : alongV x y z u s t p q = true)
    (hx : pk x z s p (fB x y z u s t p q 4) = pk x z s p (lB x y z u s t p q 4)) (hy : pk y u t q (fB x y z u s t p q 4) = pk y u t q (lB x y z u s t p q 4)) :
    ((pk x z s p (fB x y z u s t p q 4) = x ∧ pk y u t q (fB x y z u s t p q 4) = y) ∨ (pk x z s p (fB x y z u s t p q 4) = z ∧ pk y u t q (fB x y z u s t p q 4) = u)) ∧
    ((pk x z s p (fB x y z u s t p q 4) = s ∧ pk y u t q (fB x y z u s t p q 4) = t) ∨ (pk x z s p (fB x y z u s t p q 4) = p ∧ pk y u t q (fB x y z u s t p q 4) = q)) := by
  obtain ⟨h1, h2, _⟩ := touch_tch h
  obtain ⟨hA, hB⟩ := along_parts ha
  obtain ⟨f1, f2⟩ := first_common h ha
  obtain ⟨l1, l2⟩ := last_common h ha
  have hk := key_of hx hy
  obtain ⟨g1, g2⟩ := (four h1 h2 hA hB).sole fB_lt f1 (fun j hj hc => by have := f2 j hj hc; have := l2 j hj hc; omega)
  constructor
  · rcases g1 with g | g
    · exact .inl (ends_same h1 h2 hA hB fB_lt (by omega : 0 < 4) g)
    · exact .inr (ends_same h1 h2 hA hB fB_lt (by omega : 1 < 4) g)
  · rcases g2 with g | g
    · exact .inl (ends_same h1 h2 hA hB fB_lt (by omega : 2 < 4) g)
    · exact .inr (ends_same h1 h2 hA hB fB_lt (by omega : 3 < 4) g)
theorem end_is {x y z u X Y : Int} (hd : ¬(x = z ∧ y = u)) (h : (X = x ∧ Y = y) ∨ (X = z ∧ Y = u)) : (if (X == z && Y == u) = true then (1 : Int) else 0) = endV x y X Y := by
  unfold endV
  simp only [Bool.and_eq_true, beq_iff_eq]
  split <;> split <;> omega
theorem flat_same (h : touchV x y z u s t p q = true) (ha : alongV x y z u s t p q = true) :
    refS z u p q (pk x z s p (gB x y z u s t p q 4).2.1) (pk y u t q (gB x y z u s t p q 4).2.1) (pk x z s p (gB x y z u s t p q 4).2.2) (pk y u t q (gB x y z u s t p q 4).2.2) = flatM x y z u s t p q := by
  obtain ⟨h1, h2, _⟩ := touch_tch h
  obtain ⟨_, _, c1⟩ := line_iff.1 h1
  obtain ⟨_, _, c2⟩ := line_iff.1 h2
  obtain ⟨hA, hB⟩ := along_parts ha
  have H := four h1 h2 hA hB
  rcases gI_same H.within 4 (by omega) with ⟨_, _, _, hn⟩ | ⟨_, g1, g2, g3, g4⟩
  · obtain ⟨j, hj, hc⟩ := some_common h hA hB
    rw [hn j hj] at hc; cases hc
  · obtain ⟨e1, e2⟩ := ends_same h1 h2 hA hB g3 fB_lt g1
    obtain ⟨e3, e4⟩ := ends_same h1 h2 hA hB g4 lB_lt g2
    unfold flatM
    rw [e1, e2, e3, e4]
    have hs := sole_end h ha
    generalize pk x z s p (fB x y z u s t p q 4) = FX at *
    generalize pk y u t q (fB x y z u s t p q 4) = FY at *
    generalize pk x z s p (lB x y z u s t p q 4) = LX at *
    generalize pk y u t q (lB x y z u s t p q 4) = LY at *
    unfold refS strM
    by_cases hE : FX = LX ∧ FY = LY
    · obtain ⟨s1, s2⟩ := hs hE.1 hE.2
      rw [if_pos (show (FX == LX && FY == LY) = true by simp [hE]), end_is c1 s1, end_is c2 s2]
      rw [if_pos (show (FX == LX && FY == LY) = true by simp [hE])]
    · rw [if_neg (show ¬(FX == LX && FY == LY) = true by simpa using hE)]
      rw [if_neg (show ¬(FX == LX && FY == LY) = true by simpa using hE)]
/-- the same meeting, the lines exchanged -/
def turnM (m : MT) : MT := ⟨m.k, m.m, m.n, m.e, m.x, m.y, m.z, m.u⟩
def sw : Nat → Nat
  | 0 => 2
  | 1 => 3
  | 2 => 0
  | 3 => 1
  | j => j
theorem sw_lt : ∀ j, j < 4 → sw j < 4 := lt4 (by decide) (by decide) (by decide) (by decide)
theorem sw_sw : ∀ j, j < 4 → sw (sw j) = j := lt4 rfl rfl rfl rfl
theorem pk_sw (a b c d : Int) : ∀ j, j < 4 → pk c d a b j = pk a b c d (sw j) := lt4 rfl rfl rfl rfl
theorem cB_sw : ∀ j, j < 4 → cB s t p q x y z u j = cB x y z u s t p q (sw j) := fun j hj => by
  unfold cB; rw [pk_sw x z s p j hj, pk_sw y u t q j hj, Bool.and_comm]
theorem kB_sw (h2 : lineP s t p q = true) : ∀ j, j < 4 → mayP (pk x z s p (sw j)) (pk y u t q (sw j)) = true → kB s t p q x y z u j = dts s t p q (pk x z s p (sw j)) (pk y u t q (sw j)) := fun j hj hm => by
  obtain ⟨a2, b2, c2⟩ := line_iff.1 h2
  unfold kB; rw [pk_sw x z s p j hj, pk_sw y u t q j hj, dotV_is a2 b2 hm]
/-- the first and the last, seen from the other line -/
theorem other_ends (h : touchV x y z u s t p q = true) (ha : alongV x y z u s t p q = true) :
    ((pk s p x z (fB s t p q x y z u 4) = pk x z s p (fB x y z u s t p q 4) ∧ pk t q y u (fB s t p q x y z u 4) = pk y u t q (fB x y z u s t p q 4)) ∧
      (pk s p x z (lB s t p q x y z u 4) = pk x z s p (lB x y z u s t p q 4) ∧ pk t q y u (lB s t p q x y z u 4) = pk y u t q (lB x y z u s t p q 4))) ∨
    ((pk s p x z (fB s t p q x y z u 4) = pk x z s p (lB x y z u s t p q 4) ∧ pk t q y u (fB s t p q x y z u 4) = pk y u t q (lB x y z u s t p q 4)) ∧
      (pk s p x z (lB s t p q x y z u 4) = pk x z s p (fB x y z u s t p q 4) ∧ pk t q y u (lB s t p q x y z u 4) = pk y u t q (fB x y z u s t p q 4))) := by
  obtain ⟨h1, h2, _⟩ := touch_tch h
  obtain ⟨a1, b1, c1⟩ := line_iff.1 h1
  obtain ⟨_, _, c2⟩ := line_iff.1 h2
  obtain ⟨hA, hB⟩ := along_parts ha
  have h' : touchV s t p q x y z u = true := by rw [touch_comm]; exact h
  have ha' : alongV s t p q x y z u = true := by rw [along_comm]; exact ha
  obtain ⟨f1, f2⟩ := first_common h' ha'
  obtain ⟨l1, l2⟩ := last_common h' ha'
  have E := ends h1 h2 hA hB
  have fl : fB s t p q x y z u 4 < 4 := fB_lt
  have ll : lB s t p q x y z u 4 < 4 := lB_lt
  rw [pk_sw x z s p _ fl, pk_sw y u t q _ fl, pk_sw x z s p _ ll, pk_sw y u t q _ ll]
  generalize fB s t p q x y z u 4 = F at *
  generalize lB s t p q x y z u 4 = L at *
  rw [cB_sw F fl] at f1
  rw [cB_sw L ll] at l1
  have key : ∀ i, i < 4 → kB x y z u s t p q i = dts x y z u (pk x z s p i) (pk y u t q i) := fun i hi => by unfold kB; exact dotV_is a1 b1 (E i hi).2
  have K : ∀ i, i < 4 → ∀ j, j < 4 →
      (dts x y z u s t < dts x y z u p q → (kB s t p q x y z u i ≤ kB s t p q x y z u j ↔ kB x y z u s t p q (sw i) ≤ kB x y z u s t p q (sw j))) ∧
      (dts x y z u p q < dts x y z u s t → (kB s t p q x y z u i ≤ kB s t p q x y z u j ↔ kB x y z u s t p q (sw j) ≤ kB x y z u s t p q (sw i))) := fun i hi j hj => by
    obtain ⟨i1, i2⟩ := E (sw i) (sw_lt i hi)
    obtain ⟨j1, j2⟩ := E (sw j) (sw_lt j hj)
    rw [kB_sw h2 i hi i2, kB_sw h2 j hj j2, key _ (sw_lt i hi), key _ (sw_lt j hj)]
    exact key_order c1 hA hB i1 j1
  have hn := keys_ne c1 c2 hA hB
  have up : ∀ j, j < 4 → cB x y z u s t p q j = true → kB s t p q x y z u F ≤ kB s t p q x y z u (sw j) := fun j hj hc => f2 (sw j) (sw_lt j hj) (by rw [cB_sw _ (sw_lt j hj), sw_sw j hj]; exact hc)
  have dn : ∀ j, j < 4 → cB x y z u s t p q j = true → kB s t p q x y z u (sw j) ≤ kB s t p q x y z u L := fun j hj hc => l2 (sw j) (sw_lt j hj) (by rw [cB_sw _ (sw_lt j hj), sw_sw j hj]; exact hc)
  rcases Int.lt_or_gt_of_ne hn with hl | hl
  · left
    constructor
    · refine as_first h ha (sw_lt F fl) f1 fun j hj hc => ?_
      have := ((K F fl (sw j) (sw_lt j hj)).1 hl).1 (up j hj hc)
      rwa [sw_sw j hj] at this
    · refine as_last h ha (sw_lt L ll) l1 fun j hj hc => ?_
      have := ((K (sw j) (sw_lt j hj) L ll).1 hl).1 (dn j hj hc)
      rwa [sw_sw j hj] at this
  · right
    constructor
    · refine as_last h ha (sw_lt F fl) f1 fun j hj hc => ?_
      have := ((K F fl (sw j) (sw_lt j hj)).2 hl).1 (up j hj hc)
      rwa [sw_sw j hj] at this
    · refine as_first h ha (sw_lt L ll) l1 fun j hj hc => ?_
      have := ((K (sw j) (sw_lt j hj) L ll).2 hl).1 (dn j hj hc)
      rwa [sw_sw j hj] at this
end
end Go.Proofs.Ytoahcjjndjdljaa.MeW
