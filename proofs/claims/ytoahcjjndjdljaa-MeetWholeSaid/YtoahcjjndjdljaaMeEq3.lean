/-
  How lines meet: what follows.
-/
import Derived.Test.YtoahcjjndjdljaaMeEq2
import Derived.Test.YtoahcjjndjdljaaMeRef2
namespace Go.Proofs.Ytoahcjjndjdljaa.MeW
open Go.RowKit
open KM PtM OrM PtW OrW MeM
/-- both ways of telling how lines meet -/
theorem rmeet_any (x y z u s t p q : Int) (w : World) : Calls Try.prog 7 #[sgv x y z u, sgv s t p q] w (Ret (meetM x y z u s t p q).v w) := by
  unfold meetM
  cases h : touchV x y z u s t p q with
  | false => rw [if_neg (by decide)]; exact rmeet_none x y z u s t p q h w
  | true =>
    rw [if_pos rfl]
    cases ha : alongV x y z u s t p q with
    | true => rw [if_pos rfl, ← flat_same h ha]; exact rmeet_flat x y z u s t p q h ((along_dd h).1 ha) w
    | false =>
      have h0 : dd x y z u s t p q ≠ 0 := fun e => by rw [(along_dd h).2 e] at ha; cases ha
      rw [if_neg (by decide), ← cross_same h h0]; exact rmeet_cross x y z u s t p q h h0 w
section
variable {x y z u s t p q : Int}
theorem one_ne : (1 : Int) ≠ 0 ∧ (2 : Int) ≠ 0 ∧ (1 : Int) ≠ 2 := by decide
theorem str_kind (x y s t FX FY LX LY : Int) : (strM x y s t FX FY LX LY).k ≠ 0 := by
  unfold strM
  split
  · exact one_ne.1
  · exact one_ne.2.1
theorem meet_kind (x y z u s t p q : Int) : ((meetM x y z u s t p q).k != 0) = touchV x y z u s t p q := by
  unfold meetM
  cases h : touchV x y z u s t p q with
  | false => rw [if_neg (by decide)]; rfl
  | true =>
    rw [if_pos rfl]
    split
    · rw [bne_iff_ne]; exact str_kind x y s t _ _ _ _
    · rfl
theorem ab_nn (n : Int) : 0 ≤ ab n := by unfold ab; omega
theorem end_bd (x y X Y : Int) : 0 ≤ endV x y X Y ∧ endV x y X Y ≤ 1 := by unfold endV; split <;> omega
theorem end_at {x y z u X Y : Int} (h : (X = x ∧ Y = y) ∨ (X = z ∧ Y = u)) : x * 1 + (z - x) * endV x y X Y = X := by
  unfold endV
  simp only [Bool.and_eq_true, beq_iff_eq]
  split <;> omega
theorem cross_swap (h : touchV x y z u s t p q = true) (h0 : dd x y z u s t p q ≠ 0) : ab (crossV s t p q x y) + ab (crossV s t p q z u) = ab (crossV x y z u s t) + ab (crossV x y z u p q) := by
  obtain ⟨h1, h2, h3⟩ := touch_tch h
  obtain ⟨a1, b1, c1⟩ := line_iff.1 h1
  obtain ⟨a2, b2, c2⟩ := line_iff.1 h2
  obtain ⟨s1, s2⟩ := tch_sides c1 c2 h3
  obtain ⟨k1, k2⟩ := cross_abs s1 s2
  rw [crossV_is a2 b2 a1, crossV_is a2 b2 b1, crossV_is a1 b1 a2, crossV_is a1 b1 b2]
  rcases Int.lt_or_gt_of_ne h0 with hn | hn
  · obtain ⟨_, e2, _, e4⟩ := k2 hn; rw [e2, e4]
  · obtain ⟨_, e2, _, e4⟩ := k1 hn; rw [e2, e4]
/-- seen from the other line -/
theorem meet_other (x y z u s t p q : Int) :
    ((meetM x y z u s t p q).k ≠ 2 ∧ meetM s t p q x y z u = turnM (meetM x y z u s t p q) ∧ 0 ≤ (meetM x y z u s t p q).n ∧ (meetM x y z u s t p q).n ≤ (meetM x y z u s t p q).e ∧ 0 ≤ (meetM x y z u s t p q).m ∧ (meetM x y z u s t p q).m ≤ (meetM x y z u s t p q).e) ∨
    ((meetM x y z u s t p q).k = 2 ∧ (meetM s t p q x y z u).k = 2 ∧
      (((meetM s t p q x y z u).x = (meetM x y z u s t p q).x ∧ (meetM s t p q x y z u).y = (meetM x y z u s t p q).y ∧ (meetM s t p q x y z u).z = (meetM x y z u s t p q).z ∧ (meetM s t p q x y z u).u = (meetM x y z u s t p q).u) ∨
       ((meetM s t p q x y z u).x = (meetM x y z u s t p q).z ∧ (meetM s t p q x y z u).y = (meetM x y z u s t p q).u ∧ (meetM s t p q x y z u).z = (meetM x y z u s t p q).x ∧ (meetM s t p q x y z u).u = (meetM x y z u s t p q).y)) ∧
      ¬((meetM x y z u s t p q).x = (meetM x y z u s t p q).z ∧ (meetM x y z u s t p q).y = (meetM x y z u s t p q).u)) := by
  unfold meetM
  rw [touch_comm x y z u s t p q, along_comm x y z u s t p q]
  cases h : touchV x y z u s t p q with
  | false => rw [if_neg (by decide), if_neg (by decide)]; exact .inl ⟨by decide, rfl, by decide, by decide, by decide, by decide⟩
  | true =>
    rw [if_pos rfl, if_pos rfl]
    cases ha : alongV x y z u s t p q with
    | false =>
      have h0 : dd x y z u s t p q ≠ 0 := fun e => by rw [(along_dd h).2 e] at ha; cases ha
      rw [if_neg (by decide), if_neg (by decide)]
      refine .inl ⟨one_ne.2.2, ?_, ab_nn _, ?_, ab_nn _, ?_⟩
      · unfold crossM turnM; dsimp only; rw [cross_swap h h0]
      · show ab _ ≤ ab _ + ab _; have := ab_nn (crossV s t p q z u); omega
      · show ab _ ≤ ab _ + ab _; rw [cross_swap h h0]; have := ab_nn (crossV x y z u p q); omega
    | true =>
      rw [if_pos rfl, if_pos rfl]
      have ho := other_ends h ha
      unfold flatM
      generalize pk x z s p (fB x y z u s t p q 4) = FX at *
      generalize pk y u t q (fB x y z u s t p q 4) = FY at *
      generalize pk x z s p (lB x y z u s t p q 4) = LX at *
      generalize pk y u t q (lB x y z u s t p q 4) = LY at *
      generalize pk s p x z (fB s t p q x y z u 4) = FX' at *
      generalize pk t q y u (fB s t p q x y z u 4) = FY' at *
      generalize pk s p x z (lB s t p q x y z u 4) = LX' at *
      generalize pk t q y u (lB s t p q x y z u 4) = LY' at *
      unfold strM
      by_cases hE : FX = LX ∧ FY = LY
      · obtain ⟨rfl, rfl⟩ := hE
        obtain ⟨⟨rfl, rfl⟩, rfl, rfl⟩ : (FX' = FX ∧ FY' = FY) ∧ LX' = FX ∧ LY' = FY := by rcases ho with h | h <;> exact h
        rw [if_pos (by simp), if_pos (by simp)]
        exact .inl ⟨one_ne.2.2, rfl, (end_bd ..).1, (end_bd ..).2, (end_bd ..).1, (end_bd ..).2⟩
      · rw [if_neg (show ¬(FX == LX && FY == LY) = true by simpa using hE), if_neg (show ¬(FX' == LX' && FY' == LY') = true by simp only [Bool.and_eq_true, beq_iff_eq]; omega)]
        refine .inr ⟨rfl, rfl, ?_, hE⟩
        dsimp only
        rcases ho with ⟨⟨a, b⟩, c, d⟩ | ⟨⟨a, b⟩, c, d⟩
        · exact .inl ⟨a, b, c, d⟩
        · exact .inr ⟨a, b, c, d⟩
/-- lines that meet in a point: where it is along both -/
theorem meet_place (hk : (meetM x y z u s t p q).k = 1) : lineP x y z u = true ∧ lineP s t p q = true ∧ (0 < (meetM x y z u s t p q).e ∧ (meetM x y z u s t p q).e ≤ 4611686018427387904) ∧
    x * (meetM x y z u s t p q).e + (z - x) * (meetM x y z u s t p q).n = s * (meetM x y z u s t p q).e + (p - s) * (meetM x y z u s t p q).m := by
  revert hk
  unfold meetM
  cases h : touchV x y z u s t p q with
  | false => rw [if_neg (by decide)]; intro hk; cases hk
  | true =>
    obtain ⟨h1, h2, h3⟩ := touch_tch h
    obtain ⟨a1, b1, c1⟩ := line_iff.1 h1
    obtain ⟨a2, b2, c2⟩ := line_iff.1 h2
    obtain ⟨s1, s2⟩ := tch_sides c1 c2 h3
    obtain ⟨k1, k2⟩ := cross_abs s1 s2
    rw [if_pos rfl]
    cases ha : alongV x y z u s t p q with
    | false =>
      have h0 : dd x y z u s t p q ≠ 0 := fun e => by rw [(along_dd h).2 e] at ha; cases ha
      rw [if_neg (by decide)]
      intro _
      refine ⟨h1, h2, ?_, ?_⟩
      · have g1 := crossV_bd s t p q x y
        have g2 := crossV_bd s t p q z u
        have g3 : ab (crossV s t p q x y) + ab (crossV s t p q z u) ≠ 0 := by
          rw [crossV_is a2 b2 a1, crossV_is a2 b2 b1]
          rcases Int.lt_or_gt_of_ne h0 with hn | hn
          · obtain ⟨_, e2, _⟩ := k2 hn; omega
          · obtain ⟨_, e2, _⟩ := k1 hn; omega
        show 0 < ab _ + ab _ ∧ ab _ + ab _ ≤ _
        generalize crossV s t p q x y = e1 at *
        generalize crossV s t p q z u = e2 at *
        clear k1 k2 s1 s2
        unfold ab at *
        omega
      · show x * (ab _ + ab _) + (z - x) * ab _ = s * (ab _ + ab _) + (p - s) * ab _
        rw [crossV_is a2 b2 a1, crossV_is a2 b2 b1, crossV_is a1 b1 a2]
        have hc := cross_at x y z u s t p q
        rcases Int.lt_or_gt_of_ne h0 with hn | hn
        · obtain ⟨e1, e2, e3, _⟩ := k2 hn
          rw [e2, e1, e3]
          generalize dd x y z u s t p q = d at *
          generalize crs s t p q x y = C at *
          generalize crs x y z u s t = A at *
          clear k1 k2 s1 s2 e1 e2 e3
          grind
        · obtain ⟨e1, e2, e3, _⟩ := k1 hn
          rw [e2, e1, e3]
          exact hc
    | true =>
      rw [if_pos rfl]
      have hs := sole_end h ha
      unfold flatM
      generalize pk x z s p (fB x y z u s t p q 4) = FX at *
      generalize pk y u t q (fB x y z u s t p q 4) = FY at *
      generalize pk x z s p (lB x y z u s t p q 4) = LX at *
      generalize pk y u t q (lB x y z u s t p q 4) = LY at *
      unfold strM
      by_cases hE : FX = LX ∧ FY = LY
      · obtain ⟨e1, e2⟩ := hs hE.1 hE.2
        rw [if_pos (show (FX == LX && FY == LY) = true by simp [hE])]
        intro _
        exact ⟨h1, h2, ⟨(by omega : (0 : Int) < 1), (by omega : (1 : Int) ≤ 4611686018427387904)⟩, (end_at e1).trans (end_at e2).symm⟩
      · rw [if_neg (show ¬(FX == LX && FY == LY) = true by simpa using hE)]
        intro hk; cases hk
end
end Go.Proofs.Ytoahcjjndjdljaa.MeW
