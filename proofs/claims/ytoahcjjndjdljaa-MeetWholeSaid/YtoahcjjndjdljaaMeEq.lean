/-
  How lines meet: both ways of telling are one; what follows.
-/
import Derived.Test.YtoahcjjndjdljaaMeRef
namespace Go.Proofs.Ytoahcjjndjdljaa.MeW
open Go.RowKit
open KM PtM OrM PtW OrW MeM
section
variable {x y z u s t p q : Int}
theorem touch_tch (h : touchV x y z u s t p q = true) : lineP x y z u = true ∧ lineP s t p q = true ∧ tch x y z u s t p q := touchV_iff.1 h
/-- lines that touch lie along one straight line just if they go in one direction -/
theorem along_dd (h : touchV x y z u s t p q = true) : alongV x y z u s t p q = true ↔ dd x y z u s t p q = 0 := by
  obtain ⟨h1, h2, h3⟩ := touch_tch h
  obtain ⟨_, _, c1⟩ := line_iff.1 h1
  obtain ⟨_, _, c2⟩ := line_iff.1 h2
  rw [alongV_iff]
  constructor
  · rintro ⟨_, _, a, b⟩; rw [dd_1, a, b]; rfl
  · intro h0; exact ⟨h1, h2, tch_flat c1 c2 h3 h0⟩
/-- lines that cross: what both reckon is the same -/
theorem cross_same (h : touchV x y z u s t p q = true) (h0 : dd x y z u s t p q ≠ 0) : refM (crs s t p q x y) (-crs x y z u s t) (dd x y z u s t p q) = crossM x y z u s t p q := by
  obtain ⟨h1, h2, h3⟩ := touch_tch h
  obtain ⟨a1, b1, c1⟩ := line_iff.1 h1
  obtain ⟨a2, b2, c2⟩ := line_iff.1 h2
  obtain ⟨s1, s2⟩ := tch_sides c1 c2 h3
  obtain ⟨k1, k2⟩ := cross_abs s1 s2
  unfold refM crossM
  rw [crossV_is a2 b2 a1, crossV_is a2 b2 b1, crossV_is a1 b1 a2]
  by_cases hn : dd x y z u s t p q < 0
  · obtain ⟨e1, e2, e3, _⟩ := k2 hn
    rw [if_pos (decide_eq_true hn), e2, e1, e3, Int.neg_neg]
  · obtain ⟨e1, e2, e3, _⟩ := k1 (by omega)
    rw [if_neg (by rw [decide_eq_false hn]; decide), e2, e1, e3]
/-- four ends along one straight line -/
theorem four (h1 : lineP x y z u = true) (h2 : lineP s t p q = true) (hA : crs x y z u s t = 0) (hB : crs x y z u p q = 0) : Four (cB x y z u s t p q) (kB x y z u s t p q) := by
  obtain ⟨a1, b1, c1⟩ := line_iff.1 h1
  obtain ⟨a2, b2, c2⟩ := line_iff.1 h2
  have hD := len_pos c1
  have e0 : kB x y z u s t p q 0 = 0 := by show dotV x y z u x y = 0; rw [dotV_is a1 b1 a1]; exact key_a x y z u
  have e1 : kB x y z u s t p q 1 = len x y z u := by show dotV x y z u z u = _; rw [dotV_is a1 b1 b1]; rfl
  have e2 : kB x y z u s t p q 2 = dts x y z u s t := dotV_is a1 b1 a2
  have e3 : kB x y z u s t p q 3 = dts x y z u p q := dotV_is a1 b1 b2
  have f0 : cB x y z u s t p q 0 = true ↔ dts x y z u s t * dts x y z u p q ≤ 0 := by
    show (onV x y z u x y && onV s t p q x y) = true ↔ _
    rw [(on_end h1).1, Bool.true_and, onV_iff, ← on0 c1 hA hB]
    exact ⟨fun h => h.2.2, fun h => ⟨h2, a1, h⟩⟩
  have f1 : cB x y z u s t p q 1 = true ↔ (dts x y z u s t - len x y z u) * (dts x y z u p q - len x y z u) ≤ 0 := by
    show (onV x y z u z u && onV s t p q z u) = true ↔ _
    rw [(on_end h1).2, Bool.true_and, onV_iff, ← on1 c1 hA hB]
    exact ⟨fun h => h.2.2, fun h => ⟨h2, b1, h⟩⟩
  have f2 : cB x y z u s t p q 2 = true ↔ 0 ≤ dts x y z u s t ∧ dts x y z u s t ≤ len x y z u := by
    show (onV x y z u s t && onV s t p q s t) = true ↔ _
    rw [(on_end h2).1, Bool.and_true, onV_iff, ← on2 c1 hA]
    exact ⟨fun h => h.2.2, fun h => ⟨h1, a2, h⟩⟩
  have f3 : cB x y z u s t p q 3 = true ↔ 0 ≤ dts x y z u p q ∧ dts x y z u p q ≤ len x y z u := by
    show (onV x y z u p q && onV s t p q p q) = true ↔ _
    rw [(on_end h2).2, Bool.and_true, onV_iff, ← on2 c1 hB]
    exact ⟨fun h => h.2.2, fun h => ⟨h1, b2, h⟩⟩
  have hn := keys_ne c1 c2 hA hB
  have m1 := mul_sg (dts x y z u s t) (dts x y z u p q)
  have m2 := mul_sg (dts x y z u s t - len x y z u) (dts x y z u p q - len x y z u)
  generalize len x y z u = D at *
  generalize dts x y z u s t = A at *
  generalize dts x y z u p q = B at *
  generalize A * B = r1 at *
  generalize (A - D) * (B - D) = r2 at *
  refine ⟨by omega, by omega, ?_, ?_, ?_, ?_⟩
  · rw [f0, e0, e2, e3]; omega
  · rw [f1, e1, e2, e3]; omega
  · rw [f2, e0, e1, e2]
  · rw [f3, e0, e1, e3]
/-- all four ends are on the straight line, and points of the grid -/
theorem ends (h1 : lineP x y z u = true) (h2 : lineP s t p q = true) (hA : crs x y z u s t = 0) (hB : crs x y z u p q = 0) : ∀ j, j < 4 → crs x y z u (pk x z s p j) (pk y u t q j) = 0 ∧ mayP (pk x z s p j) (pk y u t q j) = true := by
  obtain ⟨a1, b1, c1⟩ := line_iff.1 h1
  obtain ⟨a2, b2, c2⟩ := line_iff.1 h2
  exact lt4 ⟨on_a.1, a1⟩ ⟨on_b.1, b1⟩ ⟨hA, a2⟩ ⟨hB, b2⟩
/-- ends that are as far along are the same -/
theorem ends_same (h1 : lineP x y z u = true) (h2 : lineP s t p q = true) (hA : crs x y z u s t = 0) (hB : crs x y z u p q = 0) {i j : Nat} (hi : i < 4) (hj : j < 4) (h : kB x y z u s t p q i = kB x y z u s t p q j) :
    pk x z s p i = pk x z s p j ∧ pk y u t q i = pk y u t q j := by
  obtain ⟨a1, b1, c1⟩ := line_iff.1 h1
  obtain ⟨g1, g2⟩ := ends h1 h2 hA hB i hi
  obtain ⟨g3, g4⟩ := ends h1 h2 hA hB j hj
  unfold kB at h
  rw [dotV_is a1 b1 g2, dotV_is a1 b1 g4] at h
  exact key_inj c1 g1 g3 h
theorem some_common (h : touchV x y z u s t p q = true) (h0 : crs x y z u s t = 0) (hB : crs x y z u p q = 0) : ∃ j, j < 4 ∧ cB x y z u s t p q j = true := by
  obtain ⟨h1, h2, h3⟩ := touch_tch h
  obtain ⟨a1, b1, c1⟩ := line_iff.1 h1
  obtain ⟨a2, b2, c2⟩ := line_iff.1 h2
  rcases h3 with h3 | h3 | h3 | h3 | h3
  · exact ⟨2, by omega, by show (onV x y z u s t && onV s t p q s t) = true; rw [(on_end h2).1, Bool.and_true, onV_iff]; exact ⟨h1, a2, h3⟩⟩
  · exact ⟨3, by omega, by show (onV x y z u p q && onV s t p q p q) = true; rw [(on_end h2).2, Bool.and_true, onV_iff]; exact ⟨h1, b2, h3⟩⟩
  · exact ⟨0, by omega, by show (onV x y z u x y && onV s t p q x y) = true; rw [(on_end h1).1, Bool.true_and, onV_iff]; exact ⟨h2, a1, h3⟩⟩
  · exact ⟨1, by omega, by show (onV x y z u z u && onV s t p q z u) = true; rw [(on_end h1).2, Bool.true_and, onV_iff]; exact ⟨h2, b1, h3⟩⟩
  · rw [h0, Int.zero_mul] at h3
    exact absurd h3.1 (Int.lt_irrefl 0)
end
end Go.Proofs.Ytoahcjjndjdljaa.MeW
