/-
  The walk of the law SpotMakes.
-/
import Derived.Test.YtacicfmalhhceaaGreatDoorSpLaws
namespace Go.Proofs.YtacicfmalhhceaaGreatDoor.SpW
open Go.RowKit
open DigM WideM WideV KM DigW WideW QuotW QuotM DecM FmtW SignM SignW RatW PtW SpM
open Go.Lib (decDigits nDigits)
theorem B_M : B < M := by unfold M; rw [B_eq]; decide +kernel
set_option maxRecDepth 100000 in
set_option maxHeartbeats 12800000 in
theorem spotMakes_zero (s : Bool) (n : Nat) (t : Bool) (m : Nat) (x y : Int) (hn : Hid (n < M)) (hm : Hid (m < M)) (hx1 : -9223372036854775808 ≤ x) (hx2 : x ≤ 9223372036854775807) (hy1 : -9223372036854775808 ≤ y) (hy2 : y ≤ 9223372036854775807) (w : World) (ht : Tab w) : Calls Tryz.prog 3 #[spv s n t m 0, ptv x y] w (Ret (.bool true) w) := by
  have hd : Hid (0 < M) := Lib.hid M_pos
  have HT := Lib.hid ht
  have HW := Lib.hid (fun w (ht : Tab w) => awake10_any w ht)
  have HMk := Lib.hid (fun w => make_zero s n t m w)
  have HG := fun w => grid_any s n t m 0 hn hm hd w
  have HAt := fun w => sat_any x y hx1 hx2 hy1 hy2 w
  have HRA := fun w => refAt_any x y hx1 hx2 hy1 hy2 w
  have HGA := fun w => grid_any (ng x) x.natAbs (ng y) y.natAbs 1 (Lib.hid (T_lt (T_big (by omega)))) (Lib.hid (T_lt (T_big (by omega)))) (Lib.hid (T_lt (T_big (by omega)))) w
  have HP := fun w => PtW.rmay_any x y w
  have HM := fun w => smay_any s n t m 0 hn hm hd w
  have HRM := fun w => refMay_any s n t m 0 hn hm hd w
  have HF := fun w => rfix_any s n hn w
  have HE := fun w => rfix_any t m hm w
  have hq := fun w => eqlSpot s n t m 0 (ng (sg s n)) (sg s n).natAbs (ng (sg t m)) (sg t m).natAbs 1 hn.out hm.out hd.out (by rw [sg_abs]; exact hn.out) (by rw [sg_abs]; exact hm.out) (T_lt (T_big (by omega))) w
  have hnf := near_fixed (s := s) (t := t) (d := 0) hn.out hm.out
  have w1 := eqlW n (wd n 0) hn.out (Nat.lt_trans (wd_lt n 0) B_M)
  have w2 := eqlW m (wd m 0) hm.out (Nat.lt_trans (wd_lt m 0) B_M)
  have b1 : Hid (wd n 0 < B) := Lib.hid (wd_lt n 0)
  have b2 : Hid (wd m 0 < B) := Lib.hid (wd_lt m 0)
  have e1 : decide (((wd n 0 : Nat) : Int) ≤ 536870912) = decide (wd n 0 ≤ 536870912) := decide_eq_decide.2 (by omega)
  have e2 : decide (((wd m 0 : Nat) : Int) ≤ 536870912) = decide (wd m 0 ≤ 536870912) := decide_eq_decide.2 (by omega)
  unfold gridV at HG HGA
  rw [grid_at hx1 hx2 hy1 hy2, sg_ng, sg_ng] at HGA
  rw [gridB_zero] at HG hnf
  rw [if_neg (by decide)] at HG
  clear hd
  unfold nv at HF HE
  unfold zsv at HAt HRA
  clear hx1 hx2 hy1 hy2 ht
  generalize ((s == ng (sg s n) && eqB n (sg s n).natAbs) && ((t == ng (sg t m) && eqB m (sg t m).natAbs) && eqB 0 1) : Bool) = fq at *
  generalize ng (sg s n) = p1 at *
  generalize (sg s n).natAbs = n1 at *
  generalize ng (sg t m) = p2 at *
  generalize (sg t m).natAbs = m1 at *
  generalize ng x = p3 at *
  generalize x.natAbs = x1 at *
  generalize ng y = p4 at *
  generalize y.natAbs = y1 at *
  generalize mayS s n t m 0 = mq at *
  generalize mayP x y = pq at *
  generalize eqB n (wd n 0) = a3 at *
  generalize eqB m (wd m 0) = a4 at *
  generalize decide (wd n 0 ≤ 536870912) = a1 at *
  generalize decide (wd m 0 ≤ 536870912) = a2 at *
  replace HAt := Lib.hid HAt
  replace HRA := Lib.hid HRA
  replace HP := Lib.hid HP
  replace HM := Lib.hid HM
  replace HRM := Lib.hid HRM
  replace HF := Lib.hid HF
  replace HE := Lib.hid HE
  have hnear : (a1 = false ∧ True) ∨ (a1 = true ∧ a2 = false ∧ True) ∨ (a1 = true ∧ a2 = true ∧ a3 = false ∧ True) ∨ (a1 = true ∧ a2 = true ∧ a3 = true ∧ a4 = false ∧ True) ∨ (a1 = true ∧ a2 = true ∧ a3 = true ∧ a4 = true ∧ fq = false) := by
    revert hnf; cases a1 <;> cases a2 <;> cases a3 <;> cases a4 <;> cases fq <;> decide
  clear hnf
  all_goals (replace HG := Lib.hid HG)
  all_goals (cases pq)
  all_goals (first | rw [if_pos rfl] at HGA | rw [if_neg (by decide)] at HGA)
  all_goals (replace HGA := Lib.hid HGA)
  all_goals (replace hnear := Lib.hid hnear)
  all_goals (
    refine enter fun u => ?_
    go_enter Tryz.func3, Tryz.ntmps3
    go_wp2_with (first
      | ((with_reducible refine ls_skip ?_ ?_); (exact rfl); (try simp only [Act.put, List.setIfInBounds_toArray, List.set_cons_succ, List.set_cons_zero]))
      | ((with_reducible refine ck_box ?_); refine list_box rfl fun _ _ => ?_)
      | ((with_reducible refine ck_alloc ?_); refine ls_alloc inferInstance fun _ _ => ?_)
      | ((with_reducible refine ck_load ?_); first | refine ls_load rfl inferInstance inferInstance ?_ | refine ls_cell rfl inferInstance inferInstance ?_)
      | ((with_reducible refine ck_gload ?_); first | refine lsg_load rfl rfl inferInstance inferInstance ?_ | refine lsg_cell rfl rfl inferInstance inferInstance ?_)
      | ((with_reducible refine ck_store ?_); refine ls_store rfl rfl inferInstance inferInstance inferInstance fun _ => ?_)
      | (go_at_call 6; (with_reducible refine (HMk.out _).mono ?_); rintro e w' ⟨rfl, hb'⟩; obtain ⟨_, rfl⟩ := KW.go _ hb'; clear hb')
      | (go_at_call 7; (with_reducible refine (HG.out _).mono ?_); rintro e w' ⟨rfl, hb'⟩; obtain ⟨_, rfl⟩ := KW.go _ hb'; clear hb')
      | (go_at_call 7; (with_reducible refine (HGA.out _).mono ?_); rintro e w' ⟨rfl, hb'⟩; obtain ⟨_, rfl⟩ := KW.go _ hb'; clear hb')
      | (go_at_call 8; (with_reducible refine (HAt.out _).mono ?_); rintro e w' ⟨rfl, hb'⟩; obtain ⟨_, rfl⟩ := KW.go _ hb'; clear hb'))
    refine region (by kernel_rfl) (by kernel_rfl) fun _ => ?_
    refine QQ.out ?_
    repeat (first
      | ((with_reducible apply qq_skip); (exact rfl); (try simp only [Act.put, List.setIfInBounds_toArray, List.set_cons_succ, List.set_cons_zero]))
      | ((with_reducible apply qq_load); exact rfl; infer_instance; infer_instance; exact rfl; (try simp only [Act.put, List.setIfInBounds_toArray, List.set_cons_succ, List.set_cons_zero]))
      | ((with_reducible apply qq_cell); exact rfl; infer_instance; infer_instance; exact rfl; (try simp only [Act.put, List.setIfInBounds_toArray, List.set_cons_succ, List.set_cons_zero]))
      | ((with_reducible apply qq_callf (f := 8)); (intro _; go_simp; try exact rfl); (with_reducible exact fun u => HAt.out _); exact rfl; (try simp only [Act.put, List.setIfInBounds_toArray, List.set_cons_succ, List.set_cons_zero]))
      | ((with_reducible apply qq_callf (f := 9)); (intro _; go_simp; try exact rfl); (with_reducible exact fun u => HRA.out _); exact rfl; (try simp only [Act.put, List.setIfInBounds_toArray, List.set_cons_succ, List.set_cons_zero]))
      | ((with_reducible apply qq_callf (f := 10)); (intro _; go_simp; try exact rfl); (with_reducible exact fun u => HP.out _); exact rfl; (try simp only [Act.put, List.setIfInBounds_toArray, List.set_cons_succ, List.set_cons_zero]))
      | ((with_reducible apply qq_callf (f := 11)); (intro _; go_simp; try exact rfl); (with_reducible exact fun u => HM.out _); exact rfl; (try simp only [Act.put, List.setIfInBounds_toArray, List.set_cons_succ, List.set_cons_zero]))
      | ((with_reducible apply qq_callf (f := 12)); (intro _; go_simp; try exact rfl); (with_reducible exact fun u => HRM.out _); exact rfl; (try simp only [Act.put, List.setIfInBounds_toArray, List.set_cons_succ, List.set_cons_zero]))
      | ((with_reducible apply qq_value); (intro _; go_simp; try exact rfl); exact rfl; (try simp only [Act.put, List.setIfInBounds_toArray, List.set_cons_succ, List.set_cons_zero]))
      | ((with_reducible apply qq_value); (intro _; go_simp; exact Eq.trans (if_neg (by first | omega | (simp only [ByteArray.size_append]; omega) | (simp [ByteArray.size_append]; omega))) rfl); exact rfl; (try simp only [Act.put, List.setIfInBounds_toArray, List.set_cons_succ, List.set_cons_zero])))
    refine qq_nil ?_
    rintro _ ⟨u7, rfl⟩
    go_wp2_with (fail)
    refine region (by kernel_rfl) (by kernel_rfl) fun _ => ?_
    refine QQ.out ?_
    repeat (first
      | ((with_reducible apply qq_skip); (exact rfl); (try simp only [Act.put, List.setIfInBounds_toArray, List.set_cons_succ, List.set_cons_zero]))
      | ((with_reducible apply qq_load); exact rfl; infer_instance; infer_instance; exact rfl; (try simp only [Act.put, List.setIfInBounds_toArray, List.set_cons_succ, List.set_cons_zero]))
      | ((with_reducible apply qq_cell); exact rfl; infer_instance; infer_instance; exact rfl; (try simp only [Act.put, List.setIfInBounds_toArray, List.set_cons_succ, List.set_cons_zero]))
      | ((with_reducible apply qq_Pt_); exact rfl; (try simp only [Act.put, List.setIfInBounds_toArray, List.set_cons_succ, List.set_cons_zero]))
      | ((with_reducible apply qq_value); (intro _; go_simp; try exact rfl); exact rfl; (try simp only [Act.put, List.setIfInBounds_toArray, List.set_cons_succ, List.set_cons_zero]))
      | ((with_reducible apply qq_value); (intro _; go_simp; exact Eq.trans (if_neg (by first | omega | (simp only [ByteArray.size_append]; omega) | (simp [ByteArray.size_append]; omega))) rfl); exact rfl; (try simp only [Act.put, List.setIfInBounds_toArray, List.set_cons_succ, List.set_cons_zero])))
    refine qq_nil ?_
    rintro _ ⟨u8, rfl⟩
    rcases hnear.out with ⟨rfl, -⟩ | ⟨rfl, rfl, -⟩ | ⟨rfl, rfl, rfl, -⟩ | ⟨rfl, rfl, rfl, rfl, -⟩ | ⟨rfl, rfl, rfl, rfl, rfl⟩
    all_goals (clear hnear)
    all_goals (
      go_wp2_with (first
        | ((with_reducible refine ls_skip ?_ ?_); (exact rfl); (try simp only [Act.put, List.setIfInBounds_toArray, List.set_cons_succ, List.set_cons_zero]))
        | ((with_reducible refine ck_load ?_); first | refine ls_load rfl inferInstance inferInstance ?_ | refine ls_cell rfl inferInstance inferInstance ?_)
        | ((with_reducible refine ck_gload ?_); first | refine lsg_load rfl rfl inferInstance inferInstance ?_ | refine lsg_cell rfl rfl inferInstance inferInstance ?_)
        | ((with_reducible refine ck_build (t := 24) (xs := #[]) ?_); refine ls_W0 ?_)
        | ((with_reducible refine ck_gbuild (t := 24) (xs := #[(0, _)]) ?_); refine lsg_W_c rfl rfl (by first | assumption | exact (‹Hid (_ < B)›).out) ?_))
      refine region (by kernel_rfl) (by kernel_rfl) fun _ => ?_
      refine QQ.out ?_
      repeat (first
        | ((with_reducible apply qq_skip); (exact rfl); (try simp only [Act.put, List.setIfInBounds_toArray, List.set_cons_succ, List.set_cons_zero]))
        | ((with_reducible apply qq_load); exact rfl; infer_instance; infer_instance; exact rfl; (try simp only [Act.put, List.setIfInBounds_toArray, List.set_cons_succ, List.set_cons_zero]))
        | ((with_reducible apply qq_cell); exact rfl; infer_instance; infer_instance; exact rfl; (try simp only [Act.put, List.setIfInBounds_toArray, List.set_cons_succ, List.set_cons_zero]))
        | ((with_reducible apply qq_W_0 (n := 1)); exact rfl; exact lit_B (by omega); exact rfl; (try simp only [Act.put, List.setIfInBounds_toArray, List.set_cons_succ, List.set_cons_zero]))
        | ((with_reducible apply qq_Spot); exact rfl; exact rfl; exact rfl; exact rfl; (try simp only [Act.put, List.setIfInBounds_toArray, List.set_cons_succ, List.set_cons_zero]))
        | ((with_reducible apply qq_callf (f := 13)); (intro _; go_simp; try exact rfl); (with_reducible exact fun u => HF.out _); exact rfl; (try simp only [Act.put, List.setIfInBounds_toArray, List.set_cons_succ, List.set_cons_zero]))
        | ((with_reducible apply qq_callf (f := 13)); (intro _; go_simp; try exact rfl); (with_reducible exact fun u => HE.out _); exact rfl; (try simp only [Act.put, List.setIfInBounds_toArray, List.set_cons_succ, List.set_cons_zero]))
        | ((with_reducible apply qq_value); (intro _; go_simp; try exact rfl); exact rfl; (try simp only [Act.put, List.setIfInBounds_toArray, List.set_cons_succ, List.set_cons_zero]))
        | ((with_reducible apply qq_value); (intro _; go_simp; exact Eq.trans (if_neg (by first | omega | (simp only [ByteArray.size_append]; omega) | (simp [ByteArray.size_append]; omega))) rfl); exact rfl; (try simp only [Act.put, List.setIfInBounds_toArray, List.set_cons_succ, List.set_cons_zero])))
      refine qq_nil ?_
      rintro _ ⟨u9, rfl⟩
      go_wp2_with (first
        | ((with_reducible refine ls_skip ?_ ?_); (exact rfl); (try simp only [Act.put, List.setIfInBounds_toArray, List.set_cons_succ, List.set_cons_zero]))
        | ((with_reducible refine ck_load ?_); first | refine ls_load rfl inferInstance inferInstance ?_ | refine ls_cell rfl inferInstance inferInstance ?_)
        | ((with_reducible refine ck_gload ?_); first | refine lsg_load rfl rfl inferInstance inferInstance ?_ | refine lsg_cell rfl rfl inferInstance inferInstance ?_)
        | ((with_reducible refine ck_build (t := 24) (xs := #[]) ?_); refine ls_W0 ?_)
        | ((with_reducible refine ck_build (t := 28) (xs := #[]) ?_); refine ls_Spot_ ?_)
        | ((with_reducible refine ck_gbuild (t := 28) (xs := #[]) ?_); refine lsg_Spot_ rfl ?_)
        | (go_at_call 14; (with_reducible refine (HW.out _ (HT.out.later (KW.below _) (Nat.le_refl _))).mono ?_); rintro e w' ⟨rfl, hb'⟩; obtain ⟨_, rfl⟩ := KW.go _ hb'; clear hb'))
      go_ret
      exact ⟨rfl, KW.below _⟩))
end Go.Proofs.YtacicfmalhhceaaGreatDoor.SpW
