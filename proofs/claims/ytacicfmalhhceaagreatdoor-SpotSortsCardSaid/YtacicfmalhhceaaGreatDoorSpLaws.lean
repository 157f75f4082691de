/-
  The layer's example; the walk of the law SpotMakes.
-/
import Derived.Test.YtacicfmalhhceaaGreatDoorSpRef
namespace Go.Proofs.YtacicfmalhhceaaGreatDoor.SpW
open Go.RowKit
open DigM WideM WideV KM DigW WideW QuotW QuotM DecM FmtW SignM SignW RatW PtW SpM
open Go.Lib (decDigits nDigits)
instance scalU64 : Scal Tryz.prog 22 := ⟨by kernel_rfl⟩
instance cellSpot_1 (s : Bool) (n : Nat) (t : Bool) (m e : Nat) : CellV Tryz.prog 22 (spc s n t m e) 1 (.int .u64 (wd n 0 : Nat)) := ⟨inferInstance, rfl⟩
instance cellSpot_10 (s : Bool) (n : Nat) (t : Bool) (m e : Nat) : CellV Tryz.prog 22 (spc s n t m e) 10 (.int .u64 (wd m 0 : Nat)) := ⟨inferInstance, rfl⟩
theorem bl_small {n : Nat} (h : n < T) : bl n ≤ 120 := by
  obtain ⟨_, h2⟩ := bl_BL n
  rcases Nat.lt_or_ge 120 (bl n) with h3 | h3
  · have h4 := h2 (by omega)
    have h5 : 2 ^ 120 ≤ 2 ^ (bl n - 1) := Nat.pow_le_pow_right (by omega) (by omega)
    have hT : T = 2 ^ 120 := by unfold T; decide +kernel
    omega
  · exact h3
theorem T_big {n : Nat} (h : n ≤ 9223372036854775808) : n < T := by unfold T; omega
theorem canon_ng (z : Int) : (ng z && !eqB z.natAbs 0) = ng z := by rw [← ng_sg, sg_ng]
theorem mayS_z {x y : Int} {d : Nat} (hx : x.natAbs < T) (hy : y.natAbs < T) (hd : d < T) (h0 : d ≠ 0) (hg : gS x.natAbs y.natAbs d = 1) : mayS (ng x) x.natAbs (ng y) y.natAbs d = true := by
  unfold mayS smallS lowB
  rw [decide_eq_true (bl_small hx), decide_eq_true (bl_small hy), decide_eq_true (bl_small hd), show eqB d 0 = false from decide_eq_false h0, decide_eq_true (canon_ng x), decide_eq_true (canon_ng y), hg]
  exact eqB_same 1
theorem gS_one (n m : Nat) : gS n m 1 = 1 := by unfold gS; rw [Nat.gcd_one_right, Nat.gcd_one_right]
theorem grid_at {x y : Int} (hx1 : -9223372036854775808 ≤ x) (hx2 : x ≤ 9223372036854775807) (hy1 : -9223372036854775808 ≤ y) (hy2 : y ≤ 9223372036854775807) : gridB (ng x) x.natAbs (ng y) y.natAbs 1 = mayP x y := by
  unfold gridB
  rw [mayS_z (T_big (by omega)) (T_big (by omega)) (T_big (by omega)) (by decide) (gS_one _ _), eqB_same, sg_ng, sg_ng]
  rfl
theorem near_fixed {s : Bool} {n : Nat} {t : Bool} {m d : Nat} (hn : n < M) (hm : m < M) :
    (decide (wd n 0 ≤ 536870912) && decide (wd m 0 ≤ 536870912) && eqB n (wd n 0) && eqB m (wd m 0) && ((s == ng (sg s n) && eqB n (sg s n).natAbs) && ((t == ng (sg t m) && eqB m (sg t m).natAbs) && eqB d 1)) : Bool) = gridB s n t m d := by
  have hB := B_eq
  have w1 : n ≤ 536870912 → wd n 0 = n := fun h => by unfold wd; rw [Nat.pow_zero, Nat.div_one]; exact Nat.mod_eq_of_lt (by omega)
  have w2 : m ≤ 536870912 → wd m 0 = m := fun h => by unfold wd; rw [Nat.pow_zero, Nat.div_one]; exact Nat.mod_eq_of_lt (by omega)
  rw [ng_sg, ng_sg, sg_abs, sg_abs, eqB_same, eqB_same, Bool.and_true, Bool.and_true, Bool.eq_iff_iff]
  unfold gridB
  simp only [Bool.and_eq_true, decide_eq_true_eq, beq_iff_eq]
  constructor
  · rintro ⟨⟨⟨⟨h1, h2⟩, h3⟩, h4⟩, h5, h6, h7⟩
    have e3 : n = wd n 0 := of_decide_eq_true h3
    have e4 : m = wd m 0 := of_decide_eq_true h4
    have e7 : d = 1 := of_decide_eq_true h7
    subst e7
    refine ⟨⟨?_, h7⟩, ?_⟩
    · unfold mayS smallS lowB
      rw [decide_eq_true (bl_small (T_big (by omega))), decide_eq_true (bl_small (T_big (by omega))), decide_eq_true (bl_small (T_big (by omega))), decide_eq_true h5.symm, decide_eq_true h6.symm, gS_one]
      decide
    · unfold mayP inB
      simp only [Bool.and_eq_true, decide_eq_true_eq]
      have a1 := sg_abs s n
      have a2 := sg_abs t m
      omega
  · rintro ⟨⟨h1, h2⟩, h3⟩
    obtain ⟨_, _, _, _, h5, h6, _⟩ := mayS_parts h1
    unfold mayP inB at h3
    simp only [Bool.and_eq_true, decide_eq_true_eq] at h3
    have a1 := sg_abs s n
    have a2 := sg_abs t m
    have b1 : n ≤ 536870912 := by omega
    have b2 : m ≤ 536870912 := by omega
    rw [w1 b1, w2 b2, eqB_same, eqB_same]
    exact ⟨⟨⟨⟨b1, b2⟩, rfl⟩, rfl⟩, h5.symm, h6.symm, h2⟩
theorem gridB_zero (s : Bool) (n : Nat) (t : Bool) (m : Nat) : gridB s n t m 0 = false := by
  unfold gridB
  rw [show eqB 0 1 = false by decide, Bool.and_false, Bool.false_and]
/-- a spot that is a point of the grid -/
theorem grid_is {s : Bool} {n : Nat} {t : Bool} {m d : Nat} (h : gridB s n t m d = true) : s = ng (sg s n) ∧ t = ng (sg t m) ∧ d = 1 ∧ mayP (sg s n) (sg t m) = true := by
  unfold gridB at h
  simp only [Bool.and_eq_true] at h
  obtain ⟨⟨h1, h2⟩, h3⟩ := h
  obtain ⟨_, _, _, _, h5, h6, _⟩ := mayS_parts h1
  exact ⟨by rw [ng_sg]; exact h5.symm, by rw [ng_sg]; exact h6.symm, of_decide_eq_true h2, h3⟩
theorem mayP_64 {x y : Int} (h : mayP x y = true) : (-9223372036854775808 ≤ x ∧ x ≤ 9223372036854775807) ∧ (-9223372036854775808 ≤ y ∧ y ≤ 9223372036854775807) := by
  unfold mayP inB at h
  simp only [Bool.and_eq_true, decide_eq_true_eq] at h
  omega
/-! ### the layer's example -/
theorem example10 : ∃ a : Value, a = spv false 1 false 1 2 ∧ Hid (
    (∀ w, Calls Tryz.prog 23 #[sgv 0 0 1 1, .int .i64 1, .int .i64 2] w (Ret (.tuple #[a, .int .i64 0]) w)) ∧
    (∀ w, Tab w → Calls Tryz.prog 19 #[a] w (Ret (.string ⟨#[49, 32, 49, 32, 50]⟩) w)) ∧
    (∀ w, Calls Tryz.prog 11 #[a] w (Ret (.bool true) w))) := by
  have h1 : Hid (1 < M) := Lib.hid (small_M (by decide))
  have h2 : Hid (2 < M) := Lib.hid (small_M (by decide))
  refine ⟨_, rfl, Lib.hid ⟨fun w => ?_, fun w ht => ?_, fun w => ?_⟩⟩
  · have := ofS_yes 0 0 1 1 1 2 (by decide) (by decide) w
    rwa [show ofSV 0 0 1 1 1 2 = spv false 1 false 1 2 by kernel_rfl] at this
  · have := stextS_any false 1 false 1 2 h1 h1 h2 w ht
    rwa [show stxt false 1 false 1 2 = ⟨#[49, 32, 49, 32, 50]⟩ by unfold stxt zdec; rw [sg_f, Int.natAbs_natCast, DecM.dec_small (by decide), DecM.dec_small (by decide)]; decide +kernel] at this
  · have := smay_any false 1 false 1 2 h1 h1 h2 w
    rwa [show mayS false 1 false 1 2 = true from mayS_z (x := 1) (y := 1) (T_big (by decide)) (T_big (by decide)) (T_big (by decide)) (by decide) (by decide +kernel)] at this
set_option maxRecDepth 100000 in
set_option maxHeartbeats 3200000 in
theorem awake10_any (w : World) (ht : Tab w) : Calls Tryz.prog 14 #[] w (Ret (.bool true) w) := by
  obtain ⟨a, ha, HH⟩ := example10
  have HT := Lib.hid ht
  have HO := Lib.hid HH.out.1
  have HX := Lib.hid HH.out.2.1
  have HM := Lib.hid HH.out.2.2
  have HA := fun w => sat_any 3 0 (by decide) (by decide) (by decide) (by decide) w
  have HB := fun w => refAt_any 3 0 (by decide) (by decide) (by decide) (by decide) w
  clear HH ht
  subst ha
  unfold zsv at HA HB
  generalize ng 3 = p at *
  generalize (3 : Int).natAbs = x at *
  generalize ng 0 = q at *
  generalize (0 : Int).natAbs = y at *
  replace HA := Lib.hid HA
  replace HB := Lib.hid HB
  refine enter fun u => ?_
  go_enter Tryz.func14, Tryz.ntmps14
  go_wp2_with (first
    | ((with_reducible refine ls_skip ?_ ?_); (exact rfl); (try simp only [Act.put, List.setIfInBounds_toArray, List.set_cons_succ, List.set_cons_zero]))
    | ((with_reducible refine ck_alloc ?_); refine ls_alloc inferInstance fun _ _ => ?_)
    | ((with_reducible refine ck_load ?_); first | refine ls_load rfl inferInstance inferInstance ?_ | refine ls_cell rfl inferInstance inferInstance ?_)
    | ((with_reducible refine ck_gload ?_); first | refine lsg_load rfl rfl inferInstance inferInstance ?_ | refine lsg_cell rfl rfl inferInstance inferInstance ?_)
    | ((with_reducible refine ck_store ?_); refine ls_store rfl rfl inferInstance inferInstance inferInstance fun _ => ?_)
    | ((with_reducible refine ck_build (t := 30) (xs := #[(0, _), (1, _)]) ?_); refine ls_Pt rfl rfl ?_)
    | ((with_reducible refine ck_build (t := 54) (xs := #[(1, _)]) ?_); refine ls_Seg_1 rfl ?_)
    | ((with_reducible refine ck_gbuild (t := 30) (xs := #[(0, _)]) ?_); refine lsg_Pt_0 rfl rfl ?_)
    | (go_at_call 23; (with_reducible refine (HO.out _).mono ?_); rintro e w' ⟨rfl, hb'⟩; obtain ⟨_, rfl⟩ := KW.go _ hb'; clear hb')
    | (go_at_call 19; (with_reducible refine (HX.out _ (HT.out.later (KW.below _) (Nat.le_refl _))).mono ?_); rintro e w' ⟨rfl, hb'⟩; obtain ⟨_, rfl⟩ := KW.go _ hb'; clear hb')
    | (go_at_call 11; (with_reducible refine (HM.out _).mono ?_); rintro e w' ⟨rfl, hb'⟩; obtain ⟨_, rfl⟩ := KW.go _ hb'; clear hb')
    | (go_at_call 8; (with_reducible refine (HA.out _).mono ?_); rintro e w' ⟨rfl, hb'⟩; obtain ⟨_, rfl⟩ := KW.go _ hb'; clear hb')
    | (go_at_call 9; (with_reducible refine (HB.out _).mono ?_); rintro e w' ⟨rfl, hb'⟩; obtain ⟨_, rfl⟩ := KW.go _ hb'; clear hb'))
  go_ret
  exact ⟨rfl, KW.below _⟩
end Go.Proofs.YtacicfmalhhceaaGreatDoor.SpW
