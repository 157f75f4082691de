/-
  The laws of layer 7: awake, PointCrosses.
-/
import Derived.Test.YtnbipfoipnaafaaPtRef
namespace Go.Proofs.Ytnbipfoipnaafaa.PtW
open Go.RowKit
open KM PtM
abbrev TrueAt7 (w : World) : Ending → World → Prop := Ret (.bool true) w
set_option maxRecDepth 100000 in
set_option maxHeartbeats 3200000 in
theorem awake7_any (w : World) : Calls Try.prog 14 #[] w (TrueAt7 w) := by
  have HC : Hid (∀ w, Calls Try.prog 8 #[ptv 0 0, ptv 1 0, ptv 0 1] w (Ret (.int .i64 1) w)) := Lib.hid (fun w => cross_any 0 0 1 0 0 1 w)
  have HF : Hid (∀ w, Calls Try.prog 12 #[ptv 0 0, ptv 3 4] w (Ret (.int .i64 25) w)) := Lib.hid (fun w => far_any 0 0 3 4 w)
  have HT : Hid (∀ w, Calls Try.prog 21 #[ptv 1 0, .int .i64 1] w (Ret (ptv 0 1) w)) := Lib.hid (fun w => turned_yes 1 0 1 (by decide) w)
  have HM : Hid (∀ w, Calls Try.prog 7 #[ptv 0 0] w (Ret (.bool true) w)) := Lib.hid (fun w => may_any 0 0 w)
  refine enter fun u => ?_
  go_enter Try.func14, Try.ntmps14
  go_wp2_with (first
    | ((with_reducible refine ls_skip ?_ ?_); (exact rfl); (try simp only [Act.put, List.setIfInBounds_toArray, List.set_cons_succ, List.set_cons_zero]))
    | ((with_reducible refine ck_build (t := 23) (xs := #[(0, _), (1, _)]) ?_); refine ls_Pt rfl rfl ?_)
    | ((with_reducible refine ck_build (t := 23) (xs := #[]) ?_); refine ls_Pt_ ?_)
    | ((with_reducible refine ck_build (t := 23) (xs := #[(0, _)]) ?_); refine ls_Pt_0 rfl ?_)
    | ((with_reducible refine ck_build (t := 23) (xs := #[(1, _)]) ?_); refine ls_Pt_1 rfl ?_)
    | ((with_reducible refine ck_gbuild (t := 23) (xs := #[(0, _), (1, _)]) ?_); refine lsg_Pt rfl rfl rfl ?_)
    | ((with_reducible refine ck_gbuild (t := 23) (xs := #[]) ?_); refine lsg_Pt_ rfl ?_)
    | ((with_reducible refine ck_gbuild (t := 23) (xs := #[(0, _)]) ?_); refine lsg_Pt_0 rfl rfl ?_)
    | ((with_reducible refine ck_gbuild (t := 23) (xs := #[(1, _)]) ?_); refine lsg_Pt_1 rfl rfl ?_)
    | (go_at_call 8; (with_reducible refine (HC.out _).mono ?_); rintro e w' ⟨rfl, hb'⟩; obtain ⟨_, rfl⟩ := KW.go _ hb'; clear hb')
    | (go_at_call 12; (with_reducible refine (HF.out _).mono ?_); rintro e w' ⟨rfl, hb'⟩; obtain ⟨_, rfl⟩ := KW.go _ hb'; clear hb')
    | (go_at_call 21; (with_reducible refine (HT.out _).mono ?_); rintro e w' ⟨rfl, hb'⟩; obtain ⟨_, rfl⟩ := KW.go _ hb'; clear hb')
    | (go_at_call 7; (with_reducible refine (HM.out _).mono ?_); rintro e w' ⟨rfl, hb'⟩; obtain ⟨_, rfl⟩ := KW.go _ hb'; clear hb'))
  go_ret
  exact ⟨rfl, KW.below _⟩
set_option maxRecDepth 100000 in
set_option maxHeartbeats 3200000 in
theorem pointCrosses_walk (x y z u s t : Int) (w : World) : Calls Try.prog 3 #[ptv x y, ptv z u, ptv s t] w (TrueAt7 w) := by
  have HW := Lib.hid (fun w => awake7_any w)
  have HA := fun w => rmay_any x y w
  have HB := fun w => rmay_any z u w
  have H1 := fun w => may_any x y w
  have H2 := Lib.hid (fun w => cross_any x y z u s t w)
  have H3 := Lib.hid (fun w => rcross_any x y z u s t w)
  have H4 := Lib.hid (fun w => dot_any x y z u s t w)
  have H5 := Lib.hid (fun w => rdot_any x y z u s t w)
  have H6 := Lib.hid (fun w => far_any x y z u w)
  have H7 := Lib.hid (fun w => rdot_any x y z u z u w)
  have H8 := fun w => less_any x y z u w
  unfold lessP at H8
  generalize crossV x y z u s t = c at *
  generalize dotV x y z u s t = d at *
  generalize dotV x y z u z u = f at *
  generalize mayP x y = p at *
  generalize mayP z u = q at *
  obtain ⟨b1, e1⟩ : ∃ b, decide (x < z) = b := ⟨_, rfl⟩
  obtain ⟨b2, e2⟩ : ∃ b, (x == z) = b := ⟨_, rfl⟩
  obtain ⟨b3, e3⟩ : ∃ b, decide (y < u) = b := ⟨_, rfl⟩
  rw [e1, e2, e3] at H8
  replace HA := Lib.hid HA
  replace HB := Lib.hid HB
  replace H1 := Lib.hid H1
  replace H8 := Lib.hid H8
  cases p
  · refine enter fun u => ?_
    go_enter Try.func3, Try.ntmps3
    go_wp2_with (first
      | ((with_reducible refine ls_skip ?_ ?_); (exact rfl); (try simp only [Act.put, List.setIfInBounds_toArray, List.set_cons_succ, List.set_cons_zero]))
      | ((with_reducible refine ck_box ?_); refine list_box rfl fun _ _ => ?_)
      | ((with_reducible refine ck_load ?_); first | refine ls_load rfl inferInstance inferInstance ?_ | refine ls_cell rfl inferInstance inferInstance ?_)
      | ((with_reducible refine ck_gload ?_); first | refine lsg_load rfl rfl inferInstance inferInstance ?_ | refine lsg_cell rfl rfl inferInstance inferInstance ?_)
      | (go_at_call 6; (with_reducible refine (HA.out _).mono ?_); rintro e w' ⟨rfl, hb'⟩; obtain ⟨_, rfl⟩ := KW.go _ hb'; clear hb')
      | (go_at_call 6; (with_reducible refine (HB.out _).mono ?_); rintro e w' ⟨rfl, hb'⟩; obtain ⟨_, rfl⟩ := KW.go _ hb'; clear hb'))
    refine region (by kernel_rfl) (by kernel_rfl) fun _ => ?_
    refine QQ.out ?_
    repeat (first
      | ((with_reducible apply qq_skip); (exact rfl); (try simp only [Act.put, List.setIfInBounds_toArray, List.set_cons_succ, List.set_cons_zero]))
      | ((with_reducible apply qq_load); exact rfl; infer_instance; infer_instance; exact rfl; (try simp only [Act.put, List.setIfInBounds_toArray, List.set_cons_succ, List.set_cons_zero]))
      | ((with_reducible apply qq_cell); exact rfl; infer_instance; infer_instance; exact rfl; (try simp only [Act.put, List.setIfInBounds_toArray, List.set_cons_succ, List.set_cons_zero]))
      | ((with_reducible apply qq_callf (f := 7)); (intro _; go_simp; try exact rfl); (with_reducible exact fun u => H1.out _); exact rfl; (try simp only [Act.put, List.setIfInBounds_toArray, List.set_cons_succ, List.set_cons_zero]))
      | ((with_reducible apply qq_callf (f := 6)); (intro _; go_simp; try exact rfl); (with_reducible exact fun u => HA.out _); exact rfl; (try simp only [Act.put, List.setIfInBounds_toArray, List.set_cons_succ, List.set_cons_zero]))
      | ((with_reducible apply qq_callf (f := 8)); (intro _; go_simp; try exact rfl); (with_reducible exact fun u => H2.out _); exact rfl; (try simp only [Act.put, List.setIfInBounds_toArray, List.set_cons_succ, List.set_cons_zero]))
      | ((with_reducible apply qq_callf (f := 9)); (intro _; go_simp; try exact rfl); (with_reducible exact fun u => H3.out _); exact rfl; (try simp only [Act.put, List.setIfInBounds_toArray, List.set_cons_succ, List.set_cons_zero]))
      | ((with_reducible apply qq_callf (f := 10)); (intro _; go_simp; try exact rfl); (with_reducible exact fun u => H4.out _); exact rfl; (try simp only [Act.put, List.setIfInBounds_toArray, List.set_cons_succ, List.set_cons_zero]))
      | ((with_reducible apply qq_callf (f := 11)); (intro _; go_simp; try exact rfl); (with_reducible exact fun u => H5.out _); exact rfl; (try simp only [Act.put, List.setIfInBounds_toArray, List.set_cons_succ, List.set_cons_zero]))
      | ((with_reducible apply qq_callf (f := 12)); (intro _; go_simp; try exact rfl); (with_reducible exact fun u => H6.out _); exact rfl; (try simp only [Act.put, List.setIfInBounds_toArray, List.set_cons_succ, List.set_cons_zero]))
      | ((with_reducible apply qq_callf (f := 11)); (intro _; go_simp; try exact rfl); (with_reducible exact fun u => H7.out _); exact rfl; (try simp only [Act.put, List.setIfInBounds_toArray, List.set_cons_succ, List.set_cons_zero]))
      | ((with_reducible apply qq_callf (f := 13)); (intro _; go_simp; try exact rfl); (with_reducible exact fun u => H8.out _); exact rfl; (try simp only [Act.put, List.setIfInBounds_toArray, List.set_cons_succ, List.set_cons_zero]))
      | ((with_reducible apply qq_callf (f := 14)); (intro _; go_simp; try exact rfl); (with_reducible exact fun u => HW.out _); exact rfl; (try simp only [Act.put, List.setIfInBounds_toArray, List.set_cons_succ, List.set_cons_zero]))
      | ((with_reducible apply qq_value); (intro _; go_simp; try exact rfl); exact rfl; (try simp only [Act.put, List.setIfInBounds_toArray, List.set_cons_succ, List.set_cons_zero])))
    refine qq_nil ?_
    rintro _ ⟨u7, rfl⟩
    go_wp2_with (fail)
    go_ret
    exact ⟨rfl, KW.below _⟩
  cases q
  · refine enter fun u => ?_
    go_enter Try.func3, Try.ntmps3
    go_wp2_with (first
      | ((with_reducible refine ls_skip ?_ ?_); (exact rfl); (try simp only [Act.put, List.setIfInBounds_toArray, List.set_cons_succ, List.set_cons_zero]))
      | ((with_reducible refine ck_box ?_); refine list_box rfl fun _ _ => ?_)
      | ((with_reducible refine ck_load ?_); first | refine ls_load rfl inferInstance inferInstance ?_ | refine ls_cell rfl inferInstance inferInstance ?_)
      | ((with_reducible refine ck_gload ?_); first | refine lsg_load rfl rfl inferInstance inferInstance ?_ | refine lsg_cell rfl rfl inferInstance inferInstance ?_)
      | (go_at_call 6; (with_reducible refine (HA.out _).mono ?_); rintro e w' ⟨rfl, hb'⟩; obtain ⟨_, rfl⟩ := KW.go _ hb'; clear hb')
      | (go_at_call 6; (with_reducible refine (HB.out _).mono ?_); rintro e w' ⟨rfl, hb'⟩; obtain ⟨_, rfl⟩ := KW.go _ hb'; clear hb'))
    refine region (by kernel_rfl) (by kernel_rfl) fun _ => ?_
    refine QQ.out ?_
    repeat (first
      | ((with_reducible apply qq_skip); (exact rfl); (try simp only [Act.put, List.setIfInBounds_toArray, List.set_cons_succ, List.set_cons_zero]))
      | ((with_reducible apply qq_load); exact rfl; infer_instance; infer_instance; exact rfl; (try simp only [Act.put, List.setIfInBounds_toArray, List.set_cons_succ, List.set_cons_zero]))
      | ((with_reducible apply qq_cell); exact rfl; infer_instance; infer_instance; exact rfl; (try simp only [Act.put, List.setIfInBounds_toArray, List.set_cons_succ, List.set_cons_zero]))
      | ((with_reducible apply qq_callf (f := 7)); (intro _; go_simp; try exact rfl); (with_reducible exact fun u => H1.out _); exact rfl; (try simp only [Act.put, List.setIfInBounds_toArray, List.set_cons_succ, List.set_cons_zero]))
      | ((with_reducible apply qq_callf (f := 6)); (intro _; go_simp; try exact rfl); (with_reducible exact fun u => HA.out _); exact rfl; (try simp only [Act.put, List.setIfInBounds_toArray, List.set_cons_succ, List.set_cons_zero]))
      | ((with_reducible apply qq_callf (f := 8)); (intro _; go_simp; try exact rfl); (with_reducible exact fun u => H2.out _); exact rfl; (try simp only [Act.put, List.setIfInBounds_toArray, List.set_cons_succ, List.set_cons_zero]))
      | ((with_reducible apply qq_callf (f := 9)); (intro _; go_simp; try exact rfl); (with_reducible exact fun u => H3.out _); exact rfl; (try simp only [Act.put, List.setIfInBounds_toArray, List.set_cons_succ, List.set_cons_zero]))
      | ((with_reducible apply qq_callf (f := 10)); (intro _; go_simp; try exact rfl); (with_reducible exact fun u => H4.out _); exact rfl; (try simp only [Act.put, List.setIfInBounds_toArray, List.set_cons_succ, List.set_cons_zero]))
      | ((with_reducible apply qq_callf (f := 11)); (intro _; go_simp; try exact rfl); (with_reducible exact fun u => H5.out _); exact rfl; (try simp only [Act.put, List.setIfInBounds_toArray, List.set_cons_succ, List.set_cons_zero]))
      | ((with_reducible apply qq_callf (f := 12)); (intro _; go_simp; try exact rfl); (with_reducible exact fun u => H6.out _); exact rfl; (try simp only [Act.put, List.setIfInBounds_toArray, List.set_cons_succ, List.set_cons_zero]))
      | ((with_reducible apply qq_callf (f := 11)); (intro _; go_simp; try exact rfl); (with_reducible exact fun u => H7.out _); exact rfl; (try simp only [Act.put, List.setIfInBounds_toArray, List.set_cons_succ, List.set_cons_zero]))
      | ((with_reducible apply qq_callf (f := 13)); (intro _; go_simp; try exact rfl); (with_reducible exact fun u => H8.out _); exact rfl; (try simp only [Act.put, List.setIfInBounds_toArray, List.set_cons_succ, List.set_cons_zero]))
      | ((with_reducible apply qq_callf (f := 14)); (intro _; go_simp; try exact rfl); (with_reducible exact fun u => HW.out _); exact rfl; (try simp only [Act.put, List.setIfInBounds_toArray, List.set_cons_succ, List.set_cons_zero]))
      | ((with_reducible apply qq_value); (intro _; go_simp; try exact rfl); exact rfl; (try simp only [Act.put, List.setIfInBounds_toArray, List.set_cons_succ, List.set_cons_zero])))
    refine qq_nil ?_
    rintro _ ⟨u7, rfl⟩
    go_wp2_with (fail)
    go_ret
    exact ⟨rfl, KW.below _⟩
  cases b1 <;> cases b2
  all_goals (
    refine enter fun u => ?_
    go_enter Try.func3, Try.ntmps3
    go_wp2_with (first
      | ((with_reducible refine ls_skip ?_ ?_); (exact rfl); (try simp only [Act.put, List.setIfInBounds_toArray, List.set_cons_succ, List.set_cons_zero]))
      | ((with_reducible refine ck_box ?_); refine list_box rfl fun _ _ => ?_)
      | ((with_reducible refine ck_load ?_); first | refine ls_load rfl inferInstance inferInstance ?_ | refine ls_cell rfl inferInstance inferInstance ?_)
      | ((with_reducible refine ck_gload ?_); first | refine lsg_load rfl rfl inferInstance inferInstance ?_ | refine lsg_cell rfl rfl inferInstance inferInstance ?_)
      | (go_at_call 6; (with_reducible refine (HA.out _).mono ?_); rintro e w' ⟨rfl, hb'⟩; obtain ⟨_, rfl⟩ := KW.go _ hb'; clear hb')
      | (go_at_call 6; (with_reducible refine (HB.out _).mono ?_); rintro e w' ⟨rfl, hb'⟩; obtain ⟨_, rfl⟩ := KW.go _ hb'; clear hb'))
    refine region (by kernel_rfl) (by kernel_rfl) fun _ => ?_
    refine QQ.out ?_
    repeat (first
      | ((with_reducible apply qq_skip); (exact rfl); (try simp only [Act.put, List.setIfInBounds_toArray, List.set_cons_succ, List.set_cons_zero]))
      | ((with_reducible apply qq_load); exact rfl; infer_instance; infer_instance; exact rfl; (try simp only [Act.put, List.setIfInBounds_toArray, List.set_cons_succ, List.set_cons_zero]))
      | ((with_reducible apply qq_cell); exact rfl; infer_instance; infer_instance; exact rfl; (try simp only [Act.put, List.setIfInBounds_toArray, List.set_cons_succ, List.set_cons_zero]))
      | ((with_reducible apply qq_callf (f := 7)); (intro _; go_simp; try exact rfl); (with_reducible exact fun u => H1.out _); exact rfl; (try simp only [Act.put, List.setIfInBounds_toArray, List.set_cons_succ, List.set_cons_zero]))
      | ((with_reducible apply qq_callf (f := 6)); (intro _; go_simp; try exact rfl); (with_reducible exact fun u => HA.out _); exact rfl; (try simp only [Act.put, List.setIfInBounds_toArray, List.set_cons_succ, List.set_cons_zero]))
      | ((with_reducible apply qq_callf (f := 8)); (intro _; go_simp; try exact rfl); (with_reducible exact fun u => H2.out _); exact rfl; (try simp only [Act.put, List.setIfInBounds_toArray, List.set_cons_succ, List.set_cons_zero]))
      | ((with_reducible apply qq_callf (f := 9)); (intro _; go_simp; try exact rfl); (with_reducible exact fun u => H3.out _); exact rfl; (try simp only [Act.put, List.setIfInBounds_toArray, List.set_cons_succ, List.set_cons_zero]))
      | ((with_reducible apply qq_callf (f := 10)); (intro _; go_simp; try exact rfl); (with_reducible exact fun u => H4.out _); exact rfl; (try simp only [Act.put, List.setIfInBounds_toArray, List.set_cons_succ, List.set_cons_zero]))
      | ((with_reducible apply qq_callf (f := 11)); (intro _; go_simp; try exact rfl); (with_reducible exact fun u => H5.out _); exact rfl; (try simp only [Act.put, List.setIfInBounds_toArray, List.set_cons_succ, List.set_cons_zero]))
      | ((with_reducible apply qq_callf (f := 12)); (intro _; go_simp; try exact rfl); (with_reducible exact fun u => H6.out _); exact rfl; (try simp only [Act.put, List.setIfInBounds_toArray, List.set_cons_succ, List.set_cons_zero]))
      | ((with_reducible apply qq_callf (f := 11)); (intro _; go_simp; try exact rfl); (with_reducible exact fun u => H7.out _); exact rfl; (try simp only [Act.put, List.setIfInBounds_toArray, List.set_cons_succ, List.set_cons_zero]))
      | ((with_reducible apply qq_callf (f := 13)); (intro _; go_simp; try exact rfl); (with_reducible exact fun u => H8.out _); exact rfl; (try simp only [Act.put, List.setIfInBounds_toArray, List.set_cons_succ, List.set_cons_zero]))
      | ((with_reducible apply qq_callf (f := 14)); (intro _; go_simp; try exact rfl); (with_reducible exact fun u => HW.out _); exact rfl; (try simp only [Act.put, List.setIfInBounds_toArray, List.set_cons_succ, List.set_cons_zero]))
      | ((with_reducible apply qq_value); (intro _; go_simp; try exact rfl); exact rfl; (try simp only [Act.put, List.setIfInBounds_toArray, List.set_cons_succ, List.set_cons_zero])))
    refine qq_nil ?_
    rintro _ ⟨u7, rfl⟩
    go_wp2_with (fail)
    go_ret
    exact ⟨rfl, KW.below _⟩)
end Go.Proofs.Ytnbipfoipnaafaa.PtW
