/-
  The walk of the law SpotMakes.
-/
import Derived.Test.YtacicfmalhhceaaGreatDoorSpLaws2
namespace Go.Proofs.YtacicfmalhhceaaGreatDoor.SpW
open Go.RowKit
open DigM WideM WideV KM DigW WideW QuotW QuotM DecM FmtW SignM SignW RatW PtW SpM
open Go.Lib (decDigits nDigits)
set_option maxRecDepth 100000 in
set_option maxHeartbeats 12800000 in
theorem spotMakes_some (s : Bool) (n : Nat) (t : Bool) (m d : Nat) (x y : Int) (hn : Hid (n < M)) (hm : Hid (m < M)) (hd : Hid (d < M)) (hp : 0 < d) (hx1 : -9223372036854775808 ≤ x) (hx2 : x ≤ 9223372036854775807) (hy1 : -9223372036854775808 ≤ y) (hy2 : y ≤ 9223372036854775807) (w : World) (ht : Tab w) : Calls Tryz.prog 3 #[spv s n t m d, ptv x y] w (Ret (.bool true) w) := by
  have HT := Lib.hid ht
  have HW := Lib.hid (fun w (ht : Tab w) => awake10_any w ht)
  have HMk := fun w => make_some s n t m d hn hm hd hp w
  have HL := fun w => refLow_any s n t m d hn hm hd hp w
  have hl0 := eqlW d 0 hd.out M_pos
  rw [show eqB d 0 = false from decide_eq_false (by omega)] at hl0
  have HG := fun w => grid_any s n t m d hn hm hd w
  have HAt := fun w => sat_any x y hx1 hx2 hy1 hy2 w
  have HRA := fun w => refAt_any x y hx1 hx2 hy1 hy2 w
  have HGA := fun w => grid_any (ng x) x.natAbs (ng y) y.natAbs 1 (Lib.hid (T_lt (T_big (by omega)))) (Lib.hid (T_lt (T_big (by omega)))) (Lib.hid (T_lt (T_big (by omega)))) w
  have HP := fun w => PtW.rmay_any x y w
  have HM := fun w => smay_any s n t m d hn hm hd w
  have HRM := fun w => refMay_any s n t m d hn hm hd w
  have HF := fun w => rfix_any s n hn w
  have HE := fun w => rfix_any t m hm w
  have hq := fun w => eqlSpot s n t m d (ng (sg s n)) (sg s n).natAbs (ng (sg t m)) (sg t m).natAbs 1 hn.out hm.out hd.out (by rw [sg_abs]; exact hn.out) (by rw [sg_abs]; exact hm.out) (T_lt (T_big (by omega))) w
  have hnf := near_fixed (s := s) (t := t) (d := d) hn.out hm.out
  have w1 := eqlW n (wd n 0) hn.out (Nat.lt_trans (wd_lt n 0) B_M)
  have w2 := eqlW m (wd m 0) hm.out (Nat.lt_trans (wd_lt m 0) B_M)
  have b1 : Hid (wd n 0 < B) := Lib.hid (wd_lt n 0)
  have b2 : Hid (wd m 0 < B) := Lib.hid (wd_lt m 0)
  have e1 : decide (((wd n 0 : Nat) : Int) ≤ 536870912) = decide (wd n 0 ≤ 536870912) := decide_eq_decide.2 (by omega)
  have e2 : decide (((wd m 0 : Nat) : Int) ≤ 536870912) = decide (wd m 0 ≤ 536870912) := decide_eq_decide.2 (by omega)
  have hgi : gridB s n t m d = true → (∀ w, Calls Tryz.prog 9 #[ptv (sg s n) (sg t m)] w (Ret (spv s n t m d) w)) ∧ ∀ w, Calls Tryz.prog 10 #[ptv (sg s n) (sg t m)] w (Ret (.bool true) w) := fun h => by
    obtain ⟨g1, g2, g3, g4⟩ := grid_is h
    obtain ⟨⟨p1, p2⟩, p3, p4⟩ := mayP_64 g4
    refine ⟨fun w => ?_, fun w => ?_⟩
    · have := refAt_any (sg s n) (sg t m) p1 p2 p3 p4 w
      unfold zsv at this
      rwa [← g1, ← g2, sg_abs, sg_abs, ← g3] at this
    · have := PtW.rmay_any (sg s n) (sg t m) w
      rwa [g4] at this
  unfold gridV at HG HGA
  rw [grid_at hx1 hx2 hy1 hy2, sg_ng, sg_ng] at HGA
  unfold nv at HF HE
  unfold zsv at HAt HRA
  unfold lowSV zsv at HMk HL
  clear hx1 hx2 hy1 hy2 ht
  generalize ((s == ng (sg s n) && eqB n (sg s n).natAbs) && ((t == ng (sg t m) && eqB m (sg t m).natAbs) && eqB d 1) : Bool) = fq at *
  generalize sg s (n / gS n m d) = lx at *
  generalize sg t (m / gS n m d) = ly at *
  generalize d / gS n m d = ld at *
  generalize ng lx = l1 at *
  generalize lx.natAbs = l2 at *
  generalize ng ly = l3 at *
  generalize ly.natAbs = l4 at *
  generalize ng (sg s n) = p1 at *
  generalize (sg s n).natAbs = n1 at *
  generalize ng (sg t m) = p2 at *
  generalize (sg t m).natAbs = m1 at *
  generalize sg s n = X at *
  generalize sg t m = Y at *
  generalize gridB s n t m d = gq at *
  generalize ng x = p3 at *
  generalize x.natAbs = x1 at *
  generalize ng y = p4 at *
  generalize y.natAbs = y1 at *
  generalize mayS s n t m d = mq at *
  generalize mayP x y = pq at *
  generalize eqB n (wd n 0) = a3 at *
  generalize eqB m (wd m 0) = a4 at *
  generalize decide (wd n 0 ≤ 536870912) = a1 at *
  generalize decide (wd m 0 ≤ 536870912) = a2 at *
  replace HAt := Lib.hid HAt
  replace HRA := Lib.hid HRA
  replace HP := Lib.hid HP
  replace HM := Lib.hid HM
  replace HRM := Lib.hid HRM
  replace HF := Lib.hid HF
  replace HE := Lib.hid HE
  replace HMk := Lib.hid HMk
  replace HL := Lib.hid HL
  have hnear : (a1 = false ∧ gq = false) ∨ (a1 = true ∧ a2 = false ∧ gq = false) ∨ (a1 = true ∧ a2 = true ∧ a3 = false ∧ gq = false) ∨ (a1 = true ∧ a2 = true ∧ a3 = true ∧ a4 = false ∧ gq = false) ∨ (a1 = true ∧ a2 = true ∧ a3 = true ∧ a4 = true ∧ fq = gq) := by
    revert hnf; cases a1 <;> cases a2 <;> cases a3 <;> cases a4 <;> cases fq <;> cases gq <;> decide
  clear hnf
  have hcase : gq = false ∨ gq = true := by cases gq <;> simp
  rcases hcase with rfl | rfl
  all_goals (first | (obtain ⟨HAX, HPX⟩ := hgi rfl; replace HAX := Lib.hid HAX; replace HPX := Lib.hid HPX; rw [if_pos rfl] at HG; clear hgi) | (have HAX := HRA; have HPX := HP; rw [if_neg (by decide)] at HG; clear hgi))
  all_goals (replace HG := Lib.hid HG)
  all_goals (cases pq)
  all_goals (first | rw [if_pos rfl] at HGA | rw [if_neg (by decide)] at HGA)
  all_goals (replace HGA := Lib.hid HGA)
  all_goals (replace hnear := Lib.hid hnear)
  all_goals (
    refine enter fun u => ?_
    go_enter Tryz.func3, Tryz.ntmps3
    go_wp2_with (first
      | ((with_reducible refine ls_skip ?_ ?_); (exact rfl); (try simp only [Act.put, List.setIfInBounds_toArray, List.set_cons_succ, List.set_cons_zero]))
      | ((with_reducible refine ck_box ?_); refine list_box rfl fun _ _ => ?_)
      | ((with_reducible refine ck_alloc ?_); refine ls_alloc inferInstance fun _ _ => ?_)
      | ((with_reducible refine ck_load ?_); first | refine ls_load rfl inferInstance inferInstance ?_ | refine ls_cell rfl inferInstance inferInstance ?_)
      | ((with_reducible refine ck_gload ?_); first | refine lsg_load rfl rfl inferInstance inferInstance ?_ | refine lsg_cell rfl rfl inferInstance inferInstance ?_)
      | ((with_reducible refine ck_store ?_); refine ls_store rfl rfl inferInstance inferInstance inferInstance fun _ => ?_)
      | (go_at_call 6; (with_reducible refine (HMk.out _).mono ?_); rintro e w' ⟨rfl, hb'⟩; obtain ⟨_, rfl⟩ := KW.go _ hb'; clear hb')
      | (go_at_call 7; (with_reducible refine (HG.out _).mono ?_); rintro e w' ⟨rfl, hb'⟩; obtain ⟨_, rfl⟩ := KW.go _ hb'; clear hb')
      | (go_at_call 7; (with_reducible refine (HGA.out _).mono ?_); rintro e w' ⟨rfl, hb'⟩; obtain ⟨_, rfl⟩ := KW.go _ hb'; clear hb')
      | (go_at_call 8; (with_reducible refine (HAt.out _).mono ?_); rintro e w' ⟨rfl, hb'⟩; obtain ⟨_, rfl⟩ := KW.go _ hb'; clear hb'))
    refine region (by kernel_rfl) (by kernel_rfl) fun _ => ?_
    refine QQ.out ?_
    repeat (first
      | ((with_reducible apply qq_skip); (exact rfl); (try simp only [Act.put, List.setIfInBounds_toArray, List.set_cons_succ, List.set_cons_zero]))
      | ((with_reducible apply qq_load); exact rfl; infer_instance; infer_instance; exact rfl; (try simp only [Act.put, List.setIfInBounds_toArray, List.set_cons_succ, List.set_cons_zero]))
      | ((with_reducible apply qq_cell); exact rfl; infer_instance; infer_instance; exact rfl; (try simp only [Act.put, List.setIfInBounds_toArray, List.set_cons_succ, List.set_cons_zero]))
      | ((with_reducible apply qq_callf (f := 8)); (intro _; go_simp; try exact rfl); (with_reducible exact fun u => HAt.out _); exact rfl; (try simp only [Act.put, List.setIfInBounds_toArray, List.set_cons_succ, List.set_cons_zero]))
      | ((with_reducible apply qq_callf (f := 9)); (intro _; go_simp; try exact rfl); (with_reducible exact fun u => HRA.out _); exact rfl; (try simp only [Act.put, List.setIfInBounds_toArray, List.set_cons_succ, List.set_cons_zero]))
      | ((with_reducible apply qq_callf (f := 10)); (intro _; go_simp; try exact rfl); (with_reducible exact fun u => HP.out _); exact rfl; (try simp only [Act.put, List.setIfInBounds_toArray, List.set_cons_succ, List.set_cons_zero]))
      | ((with_reducible apply qq_callf (f := 11)); (intro _; go_simp; try exact rfl); (with_reducible exact fun u => HM.out _); exact rfl; (try simp only [Act.put, List.setIfInBounds_toArray, List.set_cons_succ, List.set_cons_zero]))
      | ((with_reducible apply qq_callf (f := 12)); (intro _; go_simp; try exact rfl); (with_reducible exact fun u => HRM.out _); exact rfl; (try simp only [Act.put, List.setIfInBounds_toArray, List.set_cons_succ, List.set_cons_zero]))
      | ((with_reducible apply qq_value); (intro _; go_simp; try exact rfl); exact rfl; (try simp only [Act.put, List.setIfInBounds_toArray, List.set_cons_succ, List.set_cons_zero]))
      | ((with_reducible apply qq_value); (intro _; go_simp; exact Eq.trans (if_neg (by first | omega | (simp only [ByteArray.size_append]; omega) | (simp [ByteArray.size_append]; omega))) rfl); exact rfl; (try simp only [Act.put, List.setIfInBounds_toArray, List.set_cons_succ, List.set_cons_zero])))
    refine qq_nil ?_
    rintro _ ⟨u7, rfl⟩
    go_wp2_with (fail)
    refine region (by kernel_rfl) (by kernel_rfl) fun _ => ?_
    refine QQ.out ?_
    repeat (first
      | ((with_reducible apply qq_skip); (exact rfl); (try simp only [Act.put, List.setIfInBounds_toArray, List.set_cons_succ, List.set_cons_zero]))
      | ((with_reducible apply qq_load); exact rfl; infer_instance; infer_instance; exact rfl; (try simp only [Act.put, List.setIfInBounds_toArray, List.set_cons_succ, List.set_cons_zero]))
      | ((with_reducible apply qq_cell); exact rfl; infer_instance; infer_instance; exact rfl; (try simp only [Act.put, List.setIfInBounds_toArray, List.set_cons_succ, List.set_cons_zero]))
      | ((with_reducible apply qq_Pt_); exact rfl; (try simp only [Act.put, List.setIfInBounds_toArray, List.set_cons_succ, List.set_cons_zero]))
      | ((with_reducible apply qq_callf (f := 9)); (intro _; go_simp; try exact rfl); (with_reducible exact fun u => HAX.out _); exact rfl; (try simp only [Act.put, List.setIfInBounds_toArray, List.set_cons_succ, List.set_cons_zero]))
      | ((with_reducible apply qq_callf (f := 10)); (intro _; go_simp; try exact rfl); (with_reducible exact fun u => HPX.out _); exact rfl; (try simp only [Act.put, List.setIfInBounds_toArray, List.set_cons_succ, List.set_cons_zero]))
      | ((with_reducible apply qq_value); (intro _; go_simp; try exact rfl); exact rfl; (try simp only [Act.put, List.setIfInBounds_toArray, List.set_cons_succ, List.set_cons_zero]))
      | ((with_reducible apply qq_value); (intro _; go_simp; exact Eq.trans (if_neg (by first | omega | (simp only [ByteArray.size_append]; omega) | (simp [ByteArray.size_append]; omega))) rfl); exact rfl; (try simp only [Act.put, List.setIfInBounds_toArray, List.set_cons_succ, List.set_cons_zero])))
    refine qq_nil ?_
    rintro _ ⟨u8, rfl⟩
    rcases hnear.out with ⟨rfl, hx⟩ | ⟨rfl, rfl, hx⟩ | ⟨rfl, rfl, rfl, hx⟩ | ⟨rfl, rfl, rfl, rfl, hx⟩ | ⟨rfl, rfl, rfl, rfl, rfl⟩
    all_goals (first | (exfalso; revert hx; decide; done) | skip)
    all_goals (clear hnear)
    all_goals (
      go_wp2_with (first
        | ((with_reducible refine ls_skip ?_ ?_); (exact rfl); (try simp only [Act.put, List.setIfInBounds_toArray, List.set_cons_succ, List.set_cons_zero]))
        | ((with_reducible refine ck_load ?_); first | refine ls_load rfl inferInstance inferInstance ?_ | refine ls_cell rfl inferInstance inferInstance ?_)
        | ((with_reducible refine ck_gload ?_); first | refine lsg_load rfl rfl inferInstance inferInstance ?_ | refine lsg_cell rfl rfl inferInstance inferInstance ?_)
        | ((with_reducible refine ck_build (t := 24) (xs := #[]) ?_); refine ls_W0 ?_)
        | ((with_reducible refine ck_gbuild (t := 24) (xs := #[(0, _)]) ?_); refine lsg_W_c rfl rfl (by first | assumption | exact (‹Hid (_ < B)›).out) ?_))
      refine region (by kernel_rfl) (by kernel_rfl) fun _ => ?_
      refine QQ.out ?_
      repeat (first
        | ((with_reducible apply qq_skip); (exact rfl); (try simp only [Act.put, List.setIfInBounds_toArray, List.set_cons_succ, List.set_cons_zero]))
        | ((with_reducible apply qq_load); exact rfl; infer_instance; infer_instance; exact rfl; (try simp only [Act.put, List.setIfInBounds_toArray, List.set_cons_succ, List.set_cons_zero]))
        | ((with_reducible apply qq_cell); exact rfl; infer_instance; infer_instance; exact rfl; (try simp only [Act.put, List.setIfInBounds_toArray, List.set_cons_succ, List.set_cons_zero]))
        | ((with_reducible apply qq_W_0 (n := 1)); exact rfl; exact lit_B (by omega); exact rfl; (try simp only [Act.put, List.setIfInBounds_toArray, List.set_cons_succ, List.set_cons_zero]))
        | ((with_reducible apply qq_Spot); exact rfl; exact rfl; exact rfl; exact rfl; (try simp only [Act.put, List.setIfInBounds_toArray, List.set_cons_succ, List.set_cons_zero]))
        | ((with_reducible apply qq_callf (f := 13)); (intro _; go_simp; try exact rfl); (with_reducible exact fun u => HF.out _); exact rfl; (try simp only [Act.put, List.setIfInBounds_toArray, List.set_cons_succ, List.set_cons_zero]))
        | ((with_reducible apply qq_callf (f := 13)); (intro _; go_simp; try exact rfl); (with_reducible exact fun u => HE.out _); exact rfl; (try simp only [Act.put, List.setIfInBounds_toArray, List.set_cons_succ, List.set_cons_zero]))
        | ((with_reducible apply qq_value); (intro _; go_simp; try exact rfl); exact rfl; (try simp only [Act.put, List.setIfInBounds_toArray, List.set_cons_succ, List.set_cons_zero]))
        | ((with_reducible apply qq_value); (intro _; go_simp; exact Eq.trans (if_neg (by first | omega | (simp only [ByteArray.size_append]; omega) | (simp [ByteArray.size_append]; omega))) rfl); exact rfl; (try simp only [Act.put, List.setIfInBounds_toArray, List.set_cons_succ, List.set_cons_zero])))
      refine qq_nil ?_
      rintro _ ⟨u9, rfl⟩
      go_wp2_with (first
        | ((with_reducible refine ls_skip ?_ ?_); (exact rfl); (try simp only [Act.put, List.setIfInBounds_toArray, List.set_cons_succ, List.set_cons_zero]))
        | ((with_reducible refine ck_load ?_); first | refine ls_load rfl inferInstance inferInstance ?_ | refine ls_cell rfl inferInstance inferInstance ?_)
        | ((with_reducible refine ck_build (t := 24) (xs := #[]) ?_); refine ls_W0 ?_))
      refine region (by kernel_rfl) (by kernel_rfl) fun _ => ?_
      refine QQ.out ?_
      repeat (first
        | ((with_reducible apply qq_skip); (exact rfl); (try simp only [Act.put, List.setIfInBounds_toArray, List.set_cons_succ, List.set_cons_zero]))
        | ((with_reducible apply qq_load); exact rfl; infer_instance; infer_instance; exact rfl; (try simp only [Act.put, List.setIfInBounds_toArray, List.set_cons_succ, List.set_cons_zero]))
        | ((with_reducible apply qq_cell); exact rfl; infer_instance; infer_instance; exact rfl; (try simp only [Act.put, List.setIfInBounds_toArray, List.set_cons_succ, List.set_cons_zero]))
        | ((with_reducible apply qq_callf (f := 15)); (intro _; go_simp; try exact rfl); (with_reducible exact fun u => HL.out _); exact rfl; (try simp only [Act.put, List.setIfInBounds_toArray, List.set_cons_succ, List.set_cons_zero]))
        | ((with_reducible apply qq_callf (f := 14)); (intro _; go_simp; try exact rfl); (with_reducible exact fun u => HW.out _ (HT.out.later (KW.below _) (Nat.le_refl _))); exact rfl; (try simp only [Act.put, List.setIfInBounds_toArray, List.set_cons_succ, List.set_cons_zero]))
        | ((with_reducible apply qq_value); (intro _; go_simp; try exact rfl); exact rfl; (try simp only [Act.put, List.setIfInBounds_toArray, List.set_cons_succ, List.set_cons_zero]))
        | ((with_reducible apply qq_value); (intro _; go_simp; exact Eq.trans (if_neg (by first | omega | (simp only [ByteArray.size_append]; omega) | (simp [ByteArray.size_append]; omega))) rfl); exact rfl; (try simp only [Act.put, List.setIfInBounds_toArray, List.set_cons_succ, List.set_cons_zero])))
      refine qq_nil ?_
      rintro _ ⟨u10, rfl⟩
      go_wp2_with (fail)
      go_ret
      exact ⟨rfl, KW.below _⟩))
theorem spotMakes_walk (s : Bool) (n : Nat) (t : Bool) (m d : Nat) (x y : Int) (hn : Hid (n < M)) (hm : Hid (m < M)) (hd : Hid (d < M)) (hx1 : -9223372036854775808 ≤ x) (hx2 : x ≤ 9223372036854775807) (hy1 : -9223372036854775808 ≤ y) (hy2 : y ≤ 9223372036854775807) (w : World) (ht : Tab w) : Calls Tryz.prog 3 #[spv s n t m d, ptv x y] w (Ret (.bool true) w) := by
  rcases Nat.eq_zero_or_pos d with rfl | hp
  · exact spotMakes_zero s n t m x y hn hm hx1 hx2 hy1 hy2 w ht
  · exact spotMakes_some s n t m d x y hn hm hd hp hx1 hx2 hy1 hy2 w ht
end Go.Proofs.YtacicfmalhhceaaGreatDoor.SpW
