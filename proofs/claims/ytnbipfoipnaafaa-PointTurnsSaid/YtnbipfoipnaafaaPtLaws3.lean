/-
  The walk of the law PointTurns.
-/
import Derived.Test.YtnbipfoipnaafaaPtLaws
namespace Go.Proofs.Ytnbipfoipnaafaa.PtW
open Go.RowKit
open KM PtM
theorem turned_ex (x y q : Int) : ∃ X Y, (∀ w, Calls Try.prog 21 #[ptv x y, .int .i64 q] w (Ret (ptv X Y) w)) ∧ ∀ w, Calls Try.prog 22 #[ptv x y, .int .i64 q] w (Ret (ptv X Y) w) := by
  cases h : mayP x y with
  | false => exact ⟨_, _, fun w => turned_no x y q h w, fun w => rturned_no x y q h w⟩
  | true => exact ⟨_, _, fun w => turned_yes x y q h w, fun w => rturned_yes x y q h w⟩
set_option maxRecDepth 100000 in
set_option maxHeartbeats 6400000 in
theorem pointTurns_no (x y z u s t q : Int) (h : (mayP x y && mayP z u && mayP s t) = false) (w : World) : Calls Try.prog 5 #[.agg (a3ptc x y z u s t), .int .i64 q] w (TrueAt7 w) := by
  have HW := Lib.hid (fun w => awake7_any w)
  obtain ⟨X1, Y1, HT1, HR1⟩ := turned_ex x y q
  obtain ⟨X2, Y2, HT2, _⟩ := turned_ex z u q
  obtain ⟨X3, Y3, HT3, _⟩ := turned_ex s t q
  have HA := fun w => rmay_any x y w
  have HB := fun w => rmay_any z u w
  have HC := fun w => rmay_any s t w
  generalize mayP x y = p at *
  generalize mayP z u = o at *
  generalize mayP s t = r at *
  replace HT1 := Lib.hid HT1
  replace HT2 := Lib.hid HT2
  replace HT3 := Lib.hid HT3
  replace HR1 := Lib.hid HR1
  replace HA := Lib.hid HA
  replace HB := Lib.hid HB
  replace HC := Lib.hid HC
  rcases not_all h with rfl | ⟨rfl, rfl⟩ | ⟨rfl, rfl, rfl⟩
  all_goals (
    clear h
    refine enter fun u => ?_
    go_enter Try.func5, Try.ntmps5
    go_wp2_with (first
      | ((with_reducible refine ls_skip ?_ ?_); (exact rfl); (try simp only [Act.put, List.setIfInBounds_toArray, List.set_cons_succ, List.set_cons_zero]))
      | ((with_reducible refine ck_box ?_); refine list_box rfl fun _ _ => ?_))
    refine region_mixS [.take 0, .take 1, .take 2, .take 3, .take 4, .take 5, .many [6, 7, 8], .sole 9, .sole 10, .sole 11] _ (Sub.both (h := Sub.nil)) (by kernel_rfl) (by kernel_rfl) ?_
    simp only [picksM, Mv.pick, List.filterMap_cons, List.filterMap_nil, List.getElem?_cons_zero, List.getElem?_cons_succ, Option.map_some]
    refine MM.out ?_
    repeat (first
      | ((with_reducible apply mm_load); exact rfl; infer_instance; infer_instance; (try simp only [Act.put, List.setIfInBounds_toArray, List.set_cons_succ, List.set_cons_zero]))
      | ((with_reducible apply mm_cell); exact rfl; infer_instance; infer_instance; (try simp only [Act.put, List.setIfInBounds_toArray, List.set_cons_succ, List.set_cons_zero]))
      | ((with_reducible apply mm_value); (intro _; go_simp; try exact rfl); (try simp only [Act.put, List.setIfInBounds_toArray, List.set_cons_succ, List.set_cons_zero]))
      | ((with_reducible apply mo_store); exact rfl; exact rfl; infer_instance; infer_instance; infer_instance; infer_instance; (try simp only [Act.put, List.setIfInBounds_toArray, List.set_cons_succ, List.set_cons_zero]))
      | ((with_reducible apply mo_put); exact rfl; exact rfl; infer_instance; infer_instance; infer_instance; infer_instance; (try simp only [Act.put, List.setIfInBounds_toArray, List.set_cons_succ, List.set_cons_zero]))
      | ((with_reducible apply mo_alloc); infer_instance; infer_instance; intro _; (try simp only [Act.put, List.setIfInBounds_toArray, List.set_cons_succ, List.set_cons_zero]))
      | ((with_reducible apply mo_three); (decide); (decide); infer_instance; infer_instance; infer_instance; intro _ _ _; (try simp only [Act.put, List.setIfInBounds_toArray, List.set_cons_succ, List.set_cons_zero]))
      | ((with_reducible apply mo_four); (decide); (decide); infer_instance; infer_instance; infer_instance; infer_instance; intro _ _ _ _; (try simp only [Act.put, List.setIfInBounds_toArray, List.set_cons_succ, List.set_cons_zero]))
      | ((with_reducible apply mo_two); infer_instance; infer_instance; (decide); intro _ _; (try simp only [Act.put, List.setIfInBounds_toArray, List.set_cons_succ, List.set_cons_zero]))
      | ((with_reducible apply mo_load); infer_instance; exact rfl; infer_instance; infer_instance; (try simp only [Act.put, List.setIfInBounds_toArray, List.set_cons_succ, List.set_cons_zero]))
      | ((with_reducible apply mo_cell); infer_instance; exact rfl; infer_instance; infer_instance; (try simp only [Act.put, List.setIfInBounds_toArray, List.set_cons_succ, List.set_cons_zero]))
      | ((with_reducible apply mo_value); infer_instance; (intro _; go_simp; try exact rfl); (try simp only [Act.put, List.setIfInBounds_toArray, List.set_cons_succ, List.set_cons_zero])))
    refine mm_nil fun u7 => ?_
    go_wp2_with (fail)
    refine region_mixS [.take 0, .take 1, .take 2, .take 3, .take 4, .take 5, .take 6, .take 7, .take 8, .many [9, 10, 11], .sole 12, .sole 13, .sole 14] _ (Sub.both (h := Sub.both (h := Sub.both (h := Sub.both (h := Sub.nil))))) (by kernel_rfl) (by kernel_rfl) ?_
    simp only [picksM, Mv.pick, List.filterMap_cons, List.filterMap_nil, List.getElem?_cons_zero, List.getElem?_cons_succ, Option.map_some]
    refine MM.out ?_
    repeat (first
      | ((with_reducible apply mm_load); exact rfl; infer_instance; infer_instance; (try simp only [Act.put, List.setIfInBounds_toArray, List.set_cons_succ, List.set_cons_zero]))
      | ((with_reducible apply mm_cell); exact rfl; infer_instance; infer_instance; (try simp only [Act.put, List.setIfInBounds_toArray, List.set_cons_succ, List.set_cons_zero]))
      | ((with_reducible apply mm_callf (f := 21)); (intro _; go_simp; try exact rfl); (with_reducible exact fun _ u => HT1.out _); (try simp only [Act.put, List.setIfInBounds_toArray, List.set_cons_succ, List.set_cons_zero]))
      | ((with_reducible apply mo_callf (f := 21)); infer_instance; (intro _; go_simp; try exact rfl); (with_reducible exact fun u => HT1.out _); (try simp only [Act.put, List.setIfInBounds_toArray, List.set_cons_succ, List.set_cons_zero]))
      | ((with_reducible apply mm_callf (f := 21)); (intro _; go_simp; try exact rfl); (with_reducible exact fun _ u => HT2.out _); (try simp only [Act.put, List.setIfInBounds_toArray, List.set_cons_succ, List.set_cons_zero]))
      | ((with_reducible apply mo_callf (f := 21)); infer_instance; (intro _; go_simp; try exact rfl); (with_reducible exact fun u => HT2.out _); (try simp only [Act.put, List.setIfInBounds_toArray, List.set_cons_succ, List.set_cons_zero]))
      | ((with_reducible apply mm_callf (f := 21)); (intro _; go_simp; try exact rfl); (with_reducible exact fun _ u => HT3.out _); (try simp only [Act.put, List.setIfInBounds_toArray, List.set_cons_succ, List.set_cons_zero]))
      | ((with_reducible apply mo_callf (f := 21)); infer_instance; (intro _; go_simp; try exact rfl); (with_reducible exact fun u => HT3.out _); (try simp only [Act.put, List.setIfInBounds_toArray, List.set_cons_succ, List.set_cons_zero]))
      | ((with_reducible apply mm_value); (intro _; go_simp; try exact rfl); (try simp only [Act.put, List.setIfInBounds_toArray, List.set_cons_succ, List.set_cons_zero]))
      | ((with_reducible apply mo_store); exact rfl; exact rfl; infer_instance; infer_instance; infer_instance; infer_instance; (try simp only [Act.put, List.setIfInBounds_toArray, List.set_cons_succ, List.set_cons_zero]))
      | ((with_reducible apply mo_put); exact rfl; exact rfl; infer_instance; infer_instance; infer_instance; infer_instance; (try simp only [Act.put, List.setIfInBounds_toArray, List.set_cons_succ, List.set_cons_zero]))
      | ((with_reducible apply mo_alloc); infer_instance; infer_instance; intro _; (try simp only [Act.put, List.setIfInBounds_toArray, List.set_cons_succ, List.set_cons_zero]))
      | ((with_reducible apply mo_three); (decide); (decide); infer_instance; infer_instance; infer_instance; intro _ _ _; (try simp only [Act.put, List.setIfInBounds_toArray, List.set_cons_succ, List.set_cons_zero]))
      | ((with_reducible apply mo_four); (decide); (decide); infer_instance; infer_instance; infer_instance; infer_instance; intro _ _ _ _; (try simp only [Act.put, List.setIfInBounds_toArray, List.set_cons_succ, List.set_cons_zero]))
      | ((with_reducible apply mo_two); infer_instance; infer_instance; (decide); intro _ _; (try simp only [Act.put, List.setIfInBounds_toArray, List.set_cons_succ, List.set_cons_zero]))
      | ((with_reducible apply mo_load); infer_instance; exact rfl; infer_instance; infer_instance; (try simp only [Act.put, List.setIfInBounds_toArray, List.set_cons_succ, List.set_cons_zero]))
      | ((with_reducible apply mo_cell); infer_instance; exact rfl; infer_instance; infer_instance; (try simp only [Act.put, List.setIfInBounds_toArray, List.set_cons_succ, List.set_cons_zero]))
      | ((with_reducible apply mo_value); infer_instance; (intro _; go_simp; try exact rfl); (try simp only [Act.put, List.setIfInBounds_toArray, List.set_cons_succ, List.set_cons_zero])))
    refine mm_nil fun u8 => ?_
    go_wp2_with (fail)
    refine region (by kernel_rfl) (by kernel_rfl) fun _ => ?_
    refine QQ.out ?_
    repeat (first
      | ((with_reducible apply qq_skip); (exact rfl); (try simp only [Act.put, List.setIfInBounds_toArray, List.set_cons_succ, List.set_cons_zero]))
      | ((with_reducible apply qq_load); exact rfl; infer_instance; infer_instance; exact rfl; (try simp only [Act.put, List.setIfInBounds_toArray, List.set_cons_succ, List.set_cons_zero]))
      | ((with_reducible apply qq_cell); exact rfl; infer_instance; infer_instance; exact rfl; (try simp only [Act.put, List.setIfInBounds_toArray, List.set_cons_succ, List.set_cons_zero]))
      | ((with_reducible apply qq_callf (f := 22)); (intro _; go_simp; try exact rfl); (with_reducible exact fun u => HR1.out _); exact rfl; (try simp only [Act.put, List.setIfInBounds_toArray, List.set_cons_succ, List.set_cons_zero]))
      | ((with_reducible apply qq_value); (intro _; go_simp; try exact rfl); exact rfl; (try simp only [Act.put, List.setIfInBounds_toArray, List.set_cons_succ, List.set_cons_zero])))
    refine qq_nil ?_
    rintro _ ⟨u9, rfl⟩
    go_wp2_with (first
      | ((with_reducible refine ls_skip ?_ ?_); (exact rfl); (try simp only [Act.put, List.setIfInBounds_toArray, List.set_cons_succ, List.set_cons_zero]))
      | ((with_reducible refine ck_load ?_); first | refine ls_load rfl inferInstance inferInstance ?_ | refine ls_cell rfl inferInstance inferInstance ?_)
      | ((with_reducible refine ck_gload ?_); first | refine lsg_load rfl rfl inferInstance inferInstance ?_ | refine lsg_cell rfl rfl inferInstance inferInstance ?_)
      | (go_at_call 6; (with_reducible refine (HA.out _).mono ?_); rintro e w' ⟨rfl, hb'⟩; obtain ⟨_, rfl⟩ := KW.go _ hb'; clear hb')
      | (go_at_call 6; (with_reducible refine (HB.out _).mono ?_); rintro e w' ⟨rfl, hb'⟩; obtain ⟨_, rfl⟩ := KW.go _ hb'; clear hb')
      | (go_at_call 6; (with_reducible refine (HC.out _).mono ?_); rintro e w' ⟨rfl, hb'⟩; obtain ⟨_, rfl⟩ := KW.go _ hb'; clear hb')
      | (go_at_call 14; (with_reducible refine (HW.out _).mono ?_); rintro e w' ⟨rfl, hb'⟩; obtain ⟨_, rfl⟩ := KW.go _ hb'; clear hb'))
    go_ret
    exact ⟨rfl, KW.below _⟩)
theorem may_turned {k : Nat} {x y : Int} (h : mayP x y = true) : mayP (tx k x y) (ty k x y) = true := by
  obtain ⟨⟨a1, a2⟩, a3, a4⟩ := mayP_iff.1 h
  exact mayP_iff.2 (ty_bd a1 a2 a3 a4)
theorem cross_is {x y z u s t : Int} (h1 : mayP x y = true) (h2 : mayP z u = true) (h3 : mayP s t = true) : crossV x y z u s t = crs x y z u s t := by
  unfold crossV
  rw [h1, h2, h3]
  rfl
theorem dot_is {x y z u s t : Int} (h1 : mayP x y = true) (h2 : mayP z u = true) (h3 : mayP s t = true) : dotV x y z u s t = dts x y z u s t := by
  unfold dotV
  rw [h1, h2, h3]
  rfl
theorem far_zero (x y z u : Int) : (dts x y z u z u == 0) = (x == z && y == u) := by
  rw [Bool.eq_iff_iff, Bool.and_eq_true, beq_iff_eq, beq_iff_eq, beq_iff_eq]
  exact dts_zero x y z u
set_option maxRecDepth 100000 in
set_option maxHeartbeats 6400000 in
theorem pointTurns_yes (x y z u s t q : Int) (h1 : mayP x y = true) (h2 : mayP z u = true) (h3 : mayP s t = true) (w : World) : Calls Try.prog 5 #[.agg (a3ptc x y z u s t), .int .i64 q] w (TrueAt7 w) := by
  have HW := Lib.hid (fun w => awake7_any w)
  have HT1 := fun w => turned_yes x y q h1 w
  have HT2 := fun w => turned_yes z u q h2 w
  have HT3 := fun w => turned_yes s t q h3 w
  have HR1 := fun w => rturned_yes x y q h1 w
  have HA := fun w => rmay_any x y w
  have HB := fun w => rmay_any z u w
  have HC := fun w => rmay_any s t w
  rw [h1] at HA
  rw [h2] at HB
  rw [h3] at HC
  have t1 := @may_turned (qk q) x y h1
  have t2 := @may_turned (qk q) z u h2
  have t3 := @may_turned (qk q) s t h3
  have K1 := fun w => cross_any x y z u s t w
  have K2 := fun w => cross_any z u x y s t w
  have K3 := fun w => cross_any z u s t x y w
  have K4 := fun w => cross_any (tx (qk q) x y) (ty (qk q) x y) (tx (qk q) z u) (ty (qk q) z u) (tx (qk q) s t) (ty (qk q) s t) w
  have K5 := fun w => far_any (tx (qk q) x y) (ty (qk q) x y) (tx (qk q) z u) (ty (qk q) z u) w
  have K6 := fun w => far_any x y z u w
  rw [cross_is h1 h2 h3] at K1
  rw [cross_is h2 h1 h3, crs_swap] at K2
  rw [cross_is h2 h3 h1, crs_round] at K3
  rw [cross_is t1 t2 t3, crs_turned] at K4
  rw [dot_is t1 t2 t2, dts_turned] at K5
  rw [dot_is h1 h2 h2] at K6
  have E := far_zero x y z u
  have HE := fun w => eqlPt x y z u w
  have c1 : IntKind.i64.wrap (-crs x y z u s t) = -crs x y z u s t := by
    obtain ⟨⟨a1, a2⟩, a3, a4⟩ := mayP_iff.1 h1
    obtain ⟨⟨b1, b2⟩, b3, b4⟩ := mayP_iff.1 h2
    obtain ⟨⟨d1, d2⟩, d3, d4⟩ := mayP_iff.1 h3
    have := crs_bd a1 a2 a3 a4 b1 b2 b3 b4 d1 d2 d3 d4
    rw [IntKind.wrap_i64]; omega
  generalize (x == z && y == u) = o at *
  generalize crs x y z u s t = n at *
  generalize dts x y z u z u = d at *
  generalize tx (qk q) x y = X1 at *
  generalize ty (qk q) x y = Y1 at *
  generalize tx (qk q) z u = X2 at *
  generalize ty (qk q) z u = Y2 at *
  generalize tx (qk q) s t = X3 at *
  generalize ty (qk q) s t = Y3 at *
  replace HT1 := Lib.hid HT1
  replace HT2 := Lib.hid HT2
  replace HT3 := Lib.hid HT3
  replace HR1 := Lib.hid HR1
  replace HA := Lib.hid HA
  replace HB := Lib.hid HB
  replace HC := Lib.hid HC
  replace K1 := Lib.hid K1
  replace K2 := Lib.hid K2
  replace K3 := Lib.hid K3
  replace K4 := Lib.hid K4
  replace K5 := Lib.hid K5
  replace K6 := Lib.hid K6
  clear h1 h2 h3 t1 t2 t3
  refine enter fun u => ?_
  go_enter Try.func5, Try.ntmps5
  go_wp2_with (first
    | ((with_reducible refine ls_skip ?_ ?_); (exact rfl); (try simp only [Act.put, List.setIfInBounds_toArray, List.set_cons_succ, List.set_cons_zero]))
    | ((with_reducible refine ck_box ?_); refine list_box rfl fun _ _ => ?_))
  refine region_mixS [.take 0, .take 1, .take 2, .take 3, .take 4, .take 5, .many [6, 7, 8], .sole 9, .sole 10, .sole 11] _ (Sub.both (h := Sub.nil)) (by kernel_rfl) (by kernel_rfl) ?_
  simp only [picksM, Mv.pick, List.filterMap_cons, List.filterMap_nil, List.getElem?_cons_zero, List.getElem?_cons_succ, Option.map_some]
  refine MM.out ?_
  repeat (first
    | ((with_reducible apply mm_load); exact rfl; infer_instance; infer_instance; (try simp only [Act.put, List.setIfInBounds_toArray, List.set_cons_succ, List.set_cons_zero]))
    | ((with_reducible apply mm_cell); exact rfl; infer_instance; infer_instance; (try simp only [Act.put, List.setIfInBounds_toArray, List.set_cons_succ, List.set_cons_zero]))
    | ((with_reducible apply mm_value); (intro _; go_simp; try exact rfl); (try simp only [Act.put, List.setIfInBounds_toArray, List.set_cons_succ, List.set_cons_zero]))
    | ((with_reducible apply mo_store); exact rfl; exact rfl; infer_instance; infer_instance; infer_instance; infer_instance; (try simp only [Act.put, List.setIfInBounds_toArray, List.set_cons_succ, List.set_cons_zero]))
    | ((with_reducible apply mo_put); exact rfl; exact rfl; infer_instance; infer_instance; infer_instance; infer_instance; (try simp only [Act.put, List.setIfInBounds_toArray, List.set_cons_succ, List.set_cons_zero]))
    | ((with_reducible apply mo_alloc); infer_instance; infer_instance; intro _; (try simp only [Act.put, List.setIfInBounds_toArray, List.set_cons_succ, List.set_cons_zero]))
    | ((with_reducible apply mo_three); (decide); (decide); infer_instance; infer_instance; infer_instance; intro _ _ _; (try simp only [Act.put, List.setIfInBounds_toArray, List.set_cons_succ, List.set_cons_zero]))
    | ((with_reducible apply mo_four); (decide); (decide); infer_instance; infer_instance; infer_instance; infer_instance; intro _ _ _ _; (try simp only [Act.put, List.setIfInBounds_toArray, List.set_cons_succ, List.set_cons_zero]))
    | ((with_reducible apply mo_two); infer_instance; infer_instance; (decide); intro _ _; (try simp only [Act.put, List.setIfInBounds_toArray, List.set_cons_succ, List.set_cons_zero]))
    | ((with_reducible apply mo_load); infer_instance; exact rfl; infer_instance; infer_instance; (try simp only [Act.put, List.setIfInBounds_toArray, List.set_cons_succ, List.set_cons_zero]))
    | ((with_reducible apply mo_cell); infer_instance; exact rfl; infer_instance; infer_instance; (try simp only [Act.put, List.setIfInBounds_toArray, List.set_cons_succ, List.set_cons_zero]))
    | ((with_reducible apply mo_value); infer_instance; (intro _; go_simp; try exact rfl); (try simp only [Act.put, List.setIfInBounds_toArray, List.set_cons_succ, List.set_cons_zero])))
  refine mm_nil fun u7 => ?_
  go_wp2_with (fail)
  refine region_mixS [.take 0, .take 1, .take 2, .take 3, .take 4, .take 5, .take 6, .take 7, .take 8, .many [9, 10, 11], .sole 12, .sole 13, .sole 14] _ (Sub.both (h := Sub.both (h := Sub.both (h := Sub.both (h := Sub.nil))))) (by kernel_rfl) (by kernel_rfl) ?_
  simp only [picksM, Mv.pick, List.filterMap_cons, List.filterMap_nil, List.getElem?_cons_zero, List.getElem?_cons_succ, Option.map_some]
  refine MM.out ?_
  repeat (first
    | ((with_reducible apply mm_load); exact rfl; infer_instance; infer_instance; (try simp only [Act.put, List.setIfInBounds_toArray, List.set_cons_succ, List.set_cons_zero]))
    | ((with_reducible apply mm_cell); exact rfl; infer_instance; infer_instance; (try simp only [Act.put, List.setIfInBounds_toArray, List.set_cons_succ, List.set_cons_zero]))
    | ((with_reducible apply mm_callf (f := 21)); (intro _; go_simp; try exact rfl); (with_reducible exact fun _ u => HT1.out _); (try simp only [Act.put, List.setIfInBounds_toArray, List.set_cons_succ, List.set_cons_zero]))
    | ((with_reducible apply mo_callf (f := 21)); infer_instance; (intro _; go_simp; try exact rfl); (with_reducible exact fun u => HT1.out _); (try simp only [Act.put, List.setIfInBounds_toArray, List.set_cons_succ, List.set_cons_zero]))
    | ((with_reducible apply mm_callf (f := 21)); (intro _; go_simp; try exact rfl); (with_reducible exact fun _ u => HT2.out _); (try simp only [Act.put, List.setIfInBounds_toArray, List.set_cons_succ, List.set_cons_zero]))
    | ((with_reducible apply mo_callf (f := 21)); infer_instance; (intro _; go_simp; try exact rfl); (with_reducible exact fun u => HT2.out _); (try simp only [Act.put, List.setIfInBounds_toArray, List.set_cons_succ, List.set_cons_zero]))
    | ((with_reducible apply mm_callf (f := 21)); (intro _; go_simp; try exact rfl); (with_reducible exact fun _ u => HT3.out _); (try simp only [Act.put, List.setIfInBounds_toArray, List.set_cons_succ, List.set_cons_zero]))
    | ((with_reducible apply mo_callf (f := 21)); infer_instance; (intro _; go_simp; try exact rfl); (with_reducible exact fun u => HT3.out _); (try simp only [Act.put, List.setIfInBounds_toArray, List.set_cons_succ, List.set_cons_zero]))
    | ((with_reducible apply mm_value); (intro _; go_simp; try exact rfl); (try simp only [Act.put, List.setIfInBounds_toArray, List.set_cons_succ, List.set_cons_zero]))
    | ((with_reducible apply mo_store); exact rfl; exact rfl; infer_instance; infer_instance; infer_instance; infer_instance; (try simp only [Act.put, List.setIfInBounds_toArray, List.set_cons_succ, List.set_cons_zero]))
    | ((with_reducible apply mo_put); exact rfl; exact rfl; infer_instance; infer_instance; infer_instance; infer_instance; (try simp only [Act.put, List.setIfInBounds_toArray, List.set_cons_succ, List.set_cons_zero]))
    | ((with_reducible apply mo_alloc); infer_instance; infer_instance; intro _; (try simp only [Act.put, List.setIfInBounds_toArray, List.set_cons_succ, List.set_cons_zero]))
    | ((with_reducible apply mo_three); (decide); (decide); infer_instance; infer_instance; infer_instance; intro _ _ _; (try simp only [Act.put, List.setIfInBounds_toArray, List.set_cons_succ, List.set_cons_zero]))
    | ((with_reducible apply mo_four); (decide); (decide); infer_instance; infer_instance; infer_instance; infer_instance; intro _ _ _ _; (try simp only [Act.put, List.setIfInBounds_toArray, List.set_cons_succ, List.set_cons_zero]))
    | ((with_reducible apply mo_two); infer_instance; infer_instance; (decide); intro _ _; (try simp only [Act.put, List.setIfInBounds_toArray, List.set_cons_succ, List.set_cons_zero]))
    | ((with_reducible apply mo_load); infer_instance; exact rfl; infer_instance; infer_instance; (try simp only [Act.put, List.setIfInBounds_toArray, List.set_cons_succ, List.set_cons_zero]))
    | ((with_reducible apply mo_cell); infer_instance; exact rfl; infer_instance; infer_instance; (try simp only [Act.put, List.setIfInBounds_toArray, List.set_cons_succ, List.set_cons_zero]))
    | ((with_reducible apply mo_value); infer_instance; (intro _; go_simp; try exact rfl); (try simp only [Act.put, List.setIfInBounds_toArray, List.set_cons_succ, List.set_cons_zero])))
  refine mm_nil fun u8 => ?_
  go_wp2_with (fail)
  refine region (by kernel_rfl) (by kernel_rfl) fun _ => ?_
  refine QQ.out ?_
  repeat (first
    | ((with_reducible apply qq_skip); (exact rfl); (try simp only [Act.put, List.setIfInBounds_toArray, List.set_cons_succ, List.set_cons_zero]))
    | ((with_reducible apply qq_load); exact rfl; infer_instance; infer_instance; exact rfl; (try simp only [Act.put, List.setIfInBounds_toArray, List.set_cons_succ, List.set_cons_zero]))
    | ((with_reducible apply qq_cell); exact rfl; infer_instance; infer_instance; exact rfl; (try simp only [Act.put, List.setIfInBounds_toArray, List.set_cons_succ, List.set_cons_zero]))
    | ((with_reducible apply qq_callf (f := 22)); (intro _; go_simp; try exact rfl); (with_reducible exact fun u => HR1.out _); exact rfl; (try simp only [Act.put, List.setIfInBounds_toArray, List.set_cons_succ, List.set_cons_zero]))
    | ((with_reducible apply qq_value); (intro _; go_simp; try exact rfl); exact rfl; (try simp only [Act.put, List.setIfInBounds_toArray, List.set_cons_succ, List.set_cons_zero])))
  refine qq_nil ?_
  rintro _ ⟨u9, rfl⟩
  go_wp2_with (first
    | ((with_reducible refine ls_skip ?_ ?_); (exact rfl); (try simp only [Act.put, List.setIfInBounds_toArray, List.set_cons_succ, List.set_cons_zero]))
    | ((with_reducible refine ck_load ?_); first | refine ls_load rfl inferInstance inferInstance ?_ | refine ls_cell rfl inferInstance inferInstance ?_)
    | ((with_reducible refine ck_gload ?_); first | refine lsg_load rfl rfl inferInstance inferInstance ?_ | refine lsg_cell rfl rfl inferInstance inferInstance ?_)
    | (go_at_call 6; (with_reducible refine (HA.out _).mono ?_); rintro e w' ⟨rfl, hb'⟩; obtain ⟨_, rfl⟩ := KW.go _ hb'; clear hb')
    | (go_at_call 6; (with_reducible refine (HB.out _).mono ?_); rintro e w' ⟨rfl, hb'⟩; obtain ⟨_, rfl⟩ := KW.go _ hb'; clear hb')
    | (go_at_call 6; (with_reducible refine (HC.out _).mono ?_); rintro e w' ⟨rfl, hb'⟩; obtain ⟨_, rfl⟩ := KW.go _ hb'; clear hb')
    | (go_at_call 8; (with_reducible refine (K1.out _).mono ?_); rintro e w' ⟨rfl, hb'⟩; obtain ⟨_, rfl⟩ := KW.go _ hb'; clear hb'))
  refine region (by kernel_rfl) (by kernel_rfl) fun _ => ?_
  refine QQ.out ?_
  repeat (first
    | ((with_reducible apply qq_skip); (exact rfl); (try simp only [Act.put, List.setIfInBounds_toArray, List.set_cons_succ, List.set_cons_zero]))
    | ((with_reducible apply qq_load); exact rfl; infer_instance; infer_instance; exact rfl; (try simp only [Act.put, List.setIfInBounds_toArray, List.set_cons_succ, List.set_cons_zero]))
    | ((with_reducible apply qq_cell); exact rfl; infer_instance; infer_instance; exact rfl; (try simp only [Act.put, List.setIfInBounds_toArray, List.set_cons_succ, List.set_cons_zero]))
    | ((with_reducible apply qq_callf (f := 8)); (intro _; go_simp; try exact rfl); (with_reducible exact fun u => K2.out _); exact rfl; (try simp only [Act.put, List.setIfInBounds_toArray, List.set_cons_succ, List.set_cons_zero]))
    | ((with_reducible apply qq_callf (f := 8)); (intro _; go_simp; try exact rfl); (with_reducible exact fun u => K3.out _); exact rfl; (try simp only [Act.put, List.setIfInBounds_toArray, List.set_cons_succ, List.set_cons_zero]))
    | ((with_reducible apply qq_callf (f := 8)); (intro _; go_simp; try exact rfl); (with_reducible exact fun u => K4.out _); exact rfl; (try simp only [Act.put, List.setIfInBounds_toArray, List.set_cons_succ, List.set_cons_zero]))
    | ((with_reducible apply qq_callf (f := 12)); (intro _; go_simp; try exact rfl); (with_reducible exact fun u => K5.out _); exact rfl; (try simp only [Act.put, List.setIfInBounds_toArray, List.set_cons_succ, List.set_cons_zero]))
    | ((with_reducible apply qq_callf (f := 12)); (intro _; go_simp; try exact rfl); (with_reducible exact fun u => K6.out _); exact rfl; (try simp only [Act.put, List.setIfInBounds_toArray, List.set_cons_succ, List.set_cons_zero]))
    | ((with_reducible apply qq_callf (f := 14)); (intro _; go_simp; try exact rfl); (with_reducible exact fun u => HW.out _); exact rfl; (try simp only [Act.put, List.setIfInBounds_toArray, List.set_cons_succ, List.set_cons_zero]))
    | ((with_reducible apply qq_value); (intro _; go_simp; try exact rfl); exact rfl; (try simp only [Act.put, List.setIfInBounds_toArray, List.set_cons_succ, List.set_cons_zero])))
  refine qq_nil ?_
  rintro _ ⟨u10, rfl⟩
  go_wp2_with (fail)
  go_ret
  exact ⟨rfl, KW.below _⟩
theorem pointTurns_walk (x y z u s t q : Int) (w : World) : Calls Try.prog 5 #[.agg (a3ptc x y z u s t), .int .i64 q] w (TrueAt7 w) := by
  cases h : (mayP x y && mayP z u && mayP s t) with
  | false => exact pointTurns_no x y z u s t q h w
  | true =>
    obtain ⟨h1, h2, h3⟩ := and3 h
    exact pointTurns_yes x y z u s t q h1 h2 h3 w
end Go.Proofs.Ytnbipfoipnaafaa.PtW
