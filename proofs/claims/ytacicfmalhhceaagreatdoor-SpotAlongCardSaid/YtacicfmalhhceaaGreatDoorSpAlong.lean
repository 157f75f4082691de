/-
  Spots along lines: their order, where lines meet.
-/
import Derived.Test.YtacicfmalhhceaaGreatDoorLow8
import Derived.Test.YtacicfmalhhceaaGreatDoorSpLaws
namespace Go.Proofs.YtacicfmalhhceaaGreatDoor.MeW
open Go.RowKit
open KM PtM OrM PtW OrW MeM
theorem cross_atY (x y z u s t p q : Int) : y * dd x y z u s t p q + (u - y) * crs s t p q x y = t * dd x y z u s t p q + (q - t) * (-crs x y z u s t) := by unfold dd crs; grind
theorem end_atY {x y z u X Y : Int} (h : (X = x ∧ Y = y) ∨ (X = z ∧ Y = u)) : y * 1 + (u - y) * endV x y X Y = Y := by
  unfold endV
  simp only [Bool.and_eq_true, beq_iff_eq]
  split <;> omega
section
variable {x y z u s t p q : Int}
/-- lines that meet in a point: where it is along both -/
theorem meet_placeY (hk : (meetM x y z u s t p q).k = 1) : lineP x y z u = true ∧ lineP s t p q = true ∧ (0 < (meetM x y z u s t p q).e ∧ (meetM x y z u s t p q).e ≤ 4611686018427387904) ∧
    y * (meetM x y z u s t p q).e + (u - y) * (meetM x y z u s t p q).n = t * (meetM x y z u s t p q).e + (q - t) * (meetM x y z u s t p q).m := by
  revert hk
  unfold meetM
  cases h : touchV x y z u s t p q with
  | false => rw [if_neg (by decide)]; intro hk; cases hk
  | true =>
    obtain ⟨h1, h2, h3⟩ := touch_tch h
    obtain ⟨a1, b1, c1⟩ := line_iff.1 h1
    obtain ⟨a2, b2, c2⟩ := line_iff.1 h2
    obtain ⟨s1, s2⟩ := tch_sides c1 c2 h3
    obtain ⟨k1, k2⟩ := cross_abs s1 s2
    rw [if_pos rfl]
    cases ha : alongV x y z u s t p q with
    | false =>
      have h0 : dd x y z u s t p q ≠ 0 := fun e => by rw [(along_dd h).2 e] at ha; cases ha
      rw [if_neg (by decide)]
      intro _
      refine ⟨h1, h2, ?_, ?_⟩
      · have g1 := crossV_bd s t p q x y
        have g2 := crossV_bd s t p q z u
        have g3 : ab (crossV s t p q x y) + ab (crossV s t p q z u) ≠ 0 := by
          rw [crossV_is a2 b2 a1, crossV_is a2 b2 b1]
          rcases Int.lt_or_gt_of_ne h0 with hn | hn
          · obtain ⟨_, e2, _⟩ := k2 hn; omega
          · obtain ⟨_, e2, _⟩ := k1 hn; omega
        show 0 < ab _ + ab _ ∧ ab _ + ab _ ≤ _
        generalize crossV s t p q x y = e1 at *
        generalize crossV s t p q z u = e2 at *
        clear k1 k2 s1 s2
        unfold ab at *
        omega
      · show y * (ab _ + ab _) + (u - y) * ab _ = t * (ab _ + ab _) + (q - t) * ab _
        rw [crossV_is a2 b2 a1, crossV_is a2 b2 b1, crossV_is a1 b1 a2]
        have hc := cross_atY x y z u s t p q
        rcases Int.lt_or_gt_of_ne h0 with hn | hn
        · obtain ⟨e1, e2, e3, _⟩ := k2 hn
          rw [e2, e1, e3]
          generalize dd x y z u s t p q = d at *
          generalize crs s t p q x y = C at *
          generalize crs x y z u s t = A at *
          clear k1 k2 s1 s2 e1 e2 e3
          grind
        · obtain ⟨e1, e2, e3, _⟩ := k1 hn
          rw [e2, e1, e3]
          exact hc
    | true =>
      rw [if_pos rfl]
      have hs := sole_end h ha
      unfold flatM
      generalize pk x z s p (fB x y z u s t p q 4) = FX at *
      generalize pk y u t q (fB x y z u s t p q 4) = FY at *
      generalize pk x z s p (lB x y z u s t p q 4) = LX at *
      generalize pk y u t q (lB x y z u s t p q 4) = LY at *
      unfold strM
      by_cases hE : FX = LX ∧ FY = LY
      · obtain ⟨e1, e2⟩ := hs hE.1 hE.2
        rw [if_pos (show (FX == LX && FY == LY) = true by simp [hE])]
        intro _
        exact ⟨h1, h2, ⟨(by omega : (0 : Int) < 1), (by omega : (1 : Int) ≤ 4611686018427387904)⟩, (end_atY e1).trans (end_atY e2).symm⟩
      · rw [if_neg (show ¬(FX == LX && FY == LY) = true by simpa using hE)]
        intro hk; cases hk
end
end Go.Proofs.YtacicfmalhhceaaGreatDoor.MeW
namespace Go.Proofs.YtacicfmalhhceaaGreatDoor.SpW
open Go.RowKit
open DigM WideM WideV KM DigW WideW QuotW QuotM DecM FmtW SignM SignW RatW PtW SpM
theorem cmpZ_pos_mul {k z : Int} (hk : 0 < k) : cmpZ (k * z) = cmpZ z := by
  have h1 : k * z < 0 ↔ z < 0 := by
    constructor
    · intro h
      rcases Int.lt_or_le z 0 with h2 | h2
      · exact h2
      · exact absurd h (Int.not_lt.2 (Int.mul_nonneg (Int.le_of_lt hk) h2))
    · exact fun h => Int.mul_neg_of_pos_of_neg hk h
  have h2 : k * z = 0 ↔ z = 0 := by
    rw [Int.mul_eq_zero]; omega
  unfold cmpZ
  simp only [h1, h2]
theorem cmpZ_neg_mul {k z : Int} (hk : k < 0) : cmpZ (k * z) = - cmpZ z := by
  have := cmpZ_pos_mul (k := -k) (z := z) (by omega)
  rw [← this, ← cmpZ_opp, ← Int.neg_mul, Int.neg_neg]
/-- how spots compare is told by whatever stands for them -/
theorem ordS_scale {X Y X' Y' X1 Y1 X1' Y1' : Int} {D D' D1 D1' : Nat} {g g' : Nat} (hg : 0 < g) (hg' : 0 < g') (hx : g * X1 = X) (hy : g * Y1 = Y) (hd : g * D1 = D) (hx' : g' * X1' = X') (hy' : g' * Y1' = Y') (hd' : g' * D1' = D') :
    ordS ⟨X, Y, D⟩ ⟨X', Y', D'⟩ = ordS ⟨X1, Y1, D1⟩ ⟨X1', Y1', D1'⟩ := by
  subst hx hy hx' hy' hd hd'
  have hk : (0 : Int) < (g : Int) * (g' : Int) := Int.mul_pos (by omega) (by omega)
  have e1 : (g * X1 : Int) * ((g' * D1' : Nat) : Int) - (g' * X1' : Int) * ((g * D1 : Nat) : Int) = ((g : Int) * (g' : Int)) * (X1 * D1' - X1' * D1) := by push_cast; grind
  have e2 : (g * Y1 : Int) * ((g' * D1' : Nat) : Int) - (g' * Y1' : Int) * ((g * D1 : Nat) : Int) = ((g : Int) * (g' : Int)) * (Y1 * D1' - Y1' * D1) := by push_cast; grind
  unfold ordS
  dsimp only
  rw [e1, e2, cmpZ_pos_mul hk, cmpZ_pos_mul hk]
theorem mix_diff (x z n m d : Int) : mixZ x z n d - mixZ x z m d = (m - n) * (x - z) := by unfold mixZ; grind
/-- the way along a line is in order -/
theorem along_order (x y z u n m : Int) {d : Nat} (hd : 0 < d) : ordS ⟨mixZ x z n d, mixZ y u n d, d⟩ ⟨mixZ x z m d, mixZ y u m d, d⟩ =
    if n < m then ordS ⟨x, y, 1⟩ ⟨z, u, 1⟩ else if m < n then - ordS ⟨x, y, 1⟩ ⟨z, u, 1⟩ else 0 := by
  have hd' : (0 : Int) < d := by omega
  have e1 : mixZ x z n d * d - mixZ x z m d * d = d * ((m - n) * (x - z)) := by rw [← Int.sub_mul, mix_diff, Int.mul_comm]
  have e2 : mixZ y u n d * d - mixZ y u m d * d = d * ((m - n) * (y - u)) := by rw [← Int.sub_mul, mix_diff, Int.mul_comm]
  have e3 : x * ((1 : Nat) : Int) - z * ((1 : Nat) : Int) = x - z := by omega
  have e4 : y * ((1 : Nat) : Int) - u * ((1 : Nat) : Int) = y - u := by omega
  unfold ordS
  dsimp only
  rw [e1, e2, e3, e4, cmpZ_pos_mul hd', cmpZ_pos_mul hd']
  by_cases h1 : n < m
  · rw [if_pos h1, cmpZ_pos_mul (by omega), cmpZ_pos_mul (by omega)]
  · rw [if_neg h1]
    by_cases h2 : m < n
    · rw [if_pos h2, cmpZ_neg_mul (by omega), cmpZ_neg_mul (by omega)]
      split <;> split <;> omega
    · rw [if_neg h2, show m - n = 0 by omega, Int.zero_mul, Int.zero_mul]
      rfl
theorem sg_div {z : Int} {g : Nat} (h : g ∣ z.natAbs) : g * sg (ng z) (z.natAbs / g) = z := by
  have e : ((g : Int)) * sg (ng z) (z.natAbs / g) = sg (ng z) (g * (z.natAbs / g)) := by
    unfold sg; split <;> push_cast <;> grind
  rw [e, Nat.mul_div_cancel' h, sg_ng]
/-- the spot's parts -/
def ofX (mx my : Int) (d : Nat) : Int := sg (ng mx) (mx.natAbs / gS mx.natAbs my.natAbs d)
def ofY (mx my : Int) (d : Nat) : Int := sg (ng my) (my.natAbs / gS mx.natAbs my.natAbs d)
def ofD (mx my : Int) (d : Nat) : Nat := d / gS mx.natAbs my.natAbs d
theorem of_is (x y z u n d : Int) : ofSV x y z u n d = zsv (ofX (mixZ x z n d) (mixZ y u n d) d.toNat) (ofY (mixZ x z n d) (mixZ y u n d) d.toNat) (ofD (mixZ x z n d) (mixZ y u n d) d.toNat) := rfl
theorem of_ord {mx my mx' my' : Int} {d d' : Nat} (hd : 0 < d) (hd' : 0 < d') : ordS ⟨ofX mx my d, ofY mx my d, ofD mx my d⟩ ⟨ofX mx' my' d', ofY mx' my' d', ofD mx' my' d'⟩ = ordS ⟨mx, my, d⟩ ⟨mx', my', d'⟩ :=
  (ordS_scale (gS_pos hd) (gS_pos hd') (sg_div (gS_n _ _ _)) (sg_div (gS_m _ _ _)) (Nat.mul_div_cancel' (gS_d _ _ _)) (sg_div (gS_n _ _ _)) (sg_div (gS_m _ _ _)) (Nat.mul_div_cancel' (gS_d _ _ _))).symm
theorem ofX_abs (mx my : Int) (d : Nat) : (ofX mx my d).natAbs = mx.natAbs / gS mx.natAbs my.natAbs d := sg_abs _ _
theorem ofY_abs (mx my : Int) (d : Nat) : (ofY mx my d).natAbs = my.natAbs / gS mx.natAbs my.natAbs d := sg_abs _ _
theorem of_may {mx my : Int} {d : Nat} (hx : mx.natAbs < T) (hy : my.natAbs < T) (hd : d < T) (h0 : 0 < d) : mayS (ng (ofX mx my d)) (ofX mx my d).natAbs (ng (ofY mx my d)) (ofY mx my d).natAbs (ofD mx my d) = true := by
  refine mayS_z ?_ ?_ ?_ ?_ ?_
  · rw [ofX_abs]; exact Nat.lt_of_le_of_lt (Nat.div_le_self _ _) hx
  · rw [ofY_abs]; exact Nat.lt_of_le_of_lt (Nat.div_le_self _ _) hy
  · exact Nat.lt_of_le_of_lt (Nat.div_le_self _ _) hd
  · unfold ofD
    have := Nat.div_pos (Nat.le_of_dvd h0 (gS_d mx.natAbs my.natAbs d)) (gS_pos h0)
    omega
  · rw [ofX_abs, ofY_abs]; exact gS_low h0
theorem T_93 : 536870912 * 9223372036854775807 + 536870912 * 9223372036854775807 < T := by unfold T; decide +kernel
theorem mix_T {x z n d : Int} (hx : -536870912 ≤ x ∧ x ≤ 536870912) (hz : -536870912 ≤ z ∧ z ≤ 536870912) (h0 : 0 ≤ n) (h1 : n ≤ d) (h2 : d ≤ 9223372036854775807) : (mixZ x z n d).natAbs < T := Nat.lt_of_le_of_lt (mix_parts hx hz h0 h1 h2).2.2 T_93
theorem mix_place {x z s p e n m : Int} (h : x * e + (z - x) * n = s * e + (p - s) * m) : mixZ x z n e = mixZ s p m e := by unfold mixZ; grind
end Go.Proofs.YtacicfmalhhceaaGreatDoor.SpW
