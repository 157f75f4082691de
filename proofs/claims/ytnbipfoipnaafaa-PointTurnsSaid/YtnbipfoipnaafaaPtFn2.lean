/-
  package point: areas, how far, order, boxes, turning: contracts over the translation.
-/
import Derived.Test.YtnbipfoipnaafaaPtFn
import Derived.LoopTactic
namespace Go.Proofs.Ytnbipfoipnaafaa.PtW
open Go.RowKit
open KM PtM
def crossV (x y z u s t : Int) : Int := if (mayP x y && mayP z u && mayP s t) = true then crs x y z u s t else 0
def dotV (x y z u s t : Int) : Int := if (mayP x y && mayP z u && mayP s t) = true then dts x y z u s t else 0
def lessP (x y z u : Int) : Bool := mayP x y && mayP z u && (decide (x < z) || (x == z && decide (y < u)))
theorem and3 {p q r : Bool} (h : (p && q && r) = true) : p = true ∧ q = true ∧ r = true := by
  cases p <;> cases q <;> cases r <;> first | exact ⟨rfl, rfl, rfl⟩ | cases h
set_option maxRecDepth 100000 in
set_option maxHeartbeats 3200000 in
theorem step_any (x y z u : Int) (h1 : mayP x y = true) (h2 : mayP z u = true) (w : World) : Calls Try.prog 25 #[ptv x y, ptv z u] w (Ret (ptv (z - x) (u - y)) w) := by
  have a1 := mayP_iff.1 h1
  have a2 := mayP_iff.1 h2
  have w1 : IntKind.i64.wrap (z - x) = z - x := by rw [IntKind.wrap_i64]; omega
  have w2 : IntKind.i64.wrap (u - y) = u - y := by rw [IntKind.wrap_i64]; omega
  clear a1 a2 h1 h2
  refine enter fun u => ?_
  go_enter Try.func25, Try.ntmps25
  go_wp2_with (first
    | ((with_reducible refine ls_skip ?_ ?_); (exact rfl); (try simp only [Act.put, List.setIfInBounds_toArray, List.set_cons_succ, List.set_cons_zero]))
    | ((with_reducible refine ck_box ?_); refine list_box rfl fun _ _ => ?_)
    | ((with_reducible refine ck_alloc ?_); refine ls_alloc inferInstance fun _ _ => ?_)
    | ((with_reducible refine ck_load ?_); first | refine ls_load rfl inferInstance inferInstance ?_ | refine ls_cell rfl inferInstance inferInstance ?_)
    | ((with_reducible refine ck_store ?_); refine ls_store rfl rfl inferInstance inferInstance inferInstance fun _ => ?_)
    | ((with_reducible refine ck_build (t := 23) (xs := #[(0, _), (1, _)]) ?_); refine ls_Pt rfl rfl ?_))
  exact bd_cell Try.results25 rfl inferInstance inferInstance ⟨rfl, KW.below _⟩
set_option maxRecDepth 100000 in
set_option maxHeartbeats 3200000 in
theorem cross_any (x y z u s t : Int) (w : World) : Calls Try.prog 8 #[ptv x y, ptv z u, ptv s t] w (Ret (.int .i64 (crossV x y z u s t)) w) := by
  have HA := fun w => all_any x y z u s t w
  unfold crossV
  cases h : (mayP x y && mayP z u && mayP s t) with
  | false =>
    rw [h] at HA
    replace HA := Lib.hid HA
    rw [if_neg (by decide)]
    refine enter fun u => ?_
    go_enter Try.func8, Try.ntmps8
    go_wp2_with (first
      | ((with_reducible refine ls_skip ?_ ?_); (exact rfl); (try simp only [Act.put, List.setIfInBounds_toArray, List.set_cons_succ, List.set_cons_zero]))
      | ((with_reducible refine ck_box ?_); refine list_box rfl fun _ _ => ?_)
      | ((with_reducible refine ck_load ?_); first | refine ls_load rfl inferInstance inferInstance ?_ | refine ls_cell rfl inferInstance inferInstance ?_)
      | (go_at_call 24; (with_reducible refine (HA.out _).mono ?_); rintro e w' ⟨rfl, hb'⟩; obtain ⟨_, rfl⟩ := KW.go _ hb'; clear hb'))
    go_ret
    exact ⟨rfl, KW.below _⟩
  | true =>
    rw [h] at HA
    replace HA := Lib.hid HA
    rw [if_pos rfl]
    obtain ⟨h1, h2, h3⟩ := and3 h
    have HU := fun w => step_any x y z u h1 h2 w
    have HV := fun w => step_any x y s t h1 h3 w
    have a1 := mayP_iff.1 h1
    have a2 := mayP_iff.1 h2
    have a3 := mayP_iff.1 h3
    have c1 := @mul_bd (z - x) (t - y) (by omega) (by omega) (by omega) (by omega)
    have c2 := @mul_bd (u - y) (s - x) (by omega) (by omega) (by omega) (by omega)
    unfold crs
    generalize z - x = p at *
    generalize u - y = q at *
    generalize s - x = r at *
    generalize t - y = o at *
    have w1 : IntKind.i64.wrap (p * o) = p * o := by rw [IntKind.wrap_i64]; omega
    have w2 : IntKind.i64.wrap (q * r) = q * r := by rw [IntKind.wrap_i64]; omega
    have w3 : IntKind.i64.wrap (p * o - q * r) = p * o - q * r := by rw [IntKind.wrap_i64]; omega
    clear a1 a2 a3 h1 h2 h3 h c1 c2
    replace HU := Lib.hid HU
    replace HV := Lib.hid HV
    refine enter fun u => ?_
    go_enter Try.func8, Try.ntmps8
    go_wp2_with (first
      | ((with_reducible refine ls_skip ?_ ?_); (exact rfl); (try simp only [Act.put, List.setIfInBounds_toArray, List.set_cons_succ, List.set_cons_zero]))
      | ((with_reducible refine ck_box ?_); refine list_box rfl fun _ _ => ?_)
      | ((with_reducible refine ck_load ?_); first | refine ls_load rfl inferInstance inferInstance ?_ | refine ls_cell rfl inferInstance inferInstance ?_)
      | (go_at_call 24; (with_reducible refine (HA.out _).mono ?_); rintro e w' ⟨rfl, hb'⟩; obtain ⟨_, rfl⟩ := KW.go _ hb'; clear hb'))
    refine region_mixS [.take 0, .take 1, .take 2, .take 3, .take 4, .take 5, .two 6 7, .sole 8, .sole 9] _ (Sub.both (h := Sub.both (h := Sub.both (h := Sub.nil)))) (by kernel_rfl) (by kernel_rfl) ?_
    simp only [picksM, Mv.pick, List.filterMap_cons, List.filterMap_nil, List.getElem?_cons_zero, List.getElem?_cons_succ, Option.map_some]
    refine MM.out ?_
    repeat (first
      | ((with_reducible apply mm_load); exact rfl; infer_instance; infer_instance; (try simp only [Act.put, List.setIfInBounds_toArray, List.set_cons_succ, List.set_cons_zero]))
      | ((with_reducible apply mm_cell); exact rfl; infer_instance; infer_instance; (try simp only [Act.put, List.setIfInBounds_toArray, List.set_cons_succ, List.set_cons_zero]))
      | ((with_reducible apply mm_callf (f := 25)); (intro _; go_simp; try exact rfl); (with_reducible exact fun _ u => HU.out _); (try simp only [Act.put, List.setIfInBounds_toArray, List.set_cons_succ, List.set_cons_zero]))
      | ((with_reducible apply mo_callf (f := 25)); infer_instance; (intro _; go_simp; try exact rfl); (with_reducible exact fun u => HU.out _); (try simp only [Act.put, List.setIfInBounds_toArray, List.set_cons_succ, List.set_cons_zero]))
      | ((with_reducible apply mm_callf (f := 25)); (intro _; go_simp; try exact rfl); (with_reducible exact fun _ u => HV.out _); (try simp only [Act.put, List.setIfInBounds_toArray, List.set_cons_succ, List.set_cons_zero]))
      | ((with_reducible apply mo_callf (f := 25)); infer_instance; (intro _; go_simp; try exact rfl); (with_reducible exact fun u => HV.out _); (try simp only [Act.put, List.setIfInBounds_toArray, List.set_cons_succ, List.set_cons_zero]))
      | ((with_reducible apply mm_value); (intro _; go_simp; try exact rfl); (try simp only [Act.put, List.setIfInBounds_toArray, List.set_cons_succ, List.set_cons_zero]))
      | ((with_reducible apply mo_store); exact rfl; exact rfl; infer_instance; infer_instance; infer_instance; infer_instance; (try simp only [Act.put, List.setIfInBounds_toArray, List.set_cons_succ, List.set_cons_zero]))
      | ((with_reducible apply mo_put); exact rfl; exact rfl; infer_instance; infer_instance; infer_instance; infer_instance; (try simp only [Act.put, List.setIfInBounds_toArray, List.set_cons_succ, List.set_cons_zero]))
      | ((with_reducible apply mo_alloc); infer_instance; infer_instance; intro _; (try simp only [Act.put, List.setIfInBounds_toArray, List.set_cons_succ, List.set_cons_zero]))
      | ((with_reducible apply mo_three); (decide); (decide); infer_instance; infer_instance; infer_instance; intro _ _ _; (try simp only [Act.put, List.setIfInBounds_toArray, List.set_cons_succ, List.set_cons_zero]))
      | ((with_reducible apply mo_four); (decide); (decide); infer_instance; infer_instance; infer_instance; infer_instance; intro _ _ _ _; (try simp only [Act.put, List.setIfInBounds_toArray, List.set_cons_succ, List.set_cons_zero]))
      | ((with_reducible apply mo_two); infer_instance; infer_instance; (decide); intro _ _; (try simp only [Act.put, List.setIfInBounds_toArray, List.set_cons_succ, List.set_cons_zero]))
      | ((with_reducible apply mo_load); infer_instance; exact rfl; infer_instance; infer_instance; (try simp only [Act.put, List.setIfInBounds_toArray, List.set_cons_succ, List.set_cons_zero]))
      | ((with_reducible apply mo_cell); infer_instance; exact rfl; infer_instance; infer_instance; (try simp only [Act.put, List.setIfInBounds_toArray, List.set_cons_succ, List.set_cons_zero]))
      | ((with_reducible apply mo_value); infer_instance; (intro _; go_simp; try exact rfl); (try simp only [Act.put, List.setIfInBounds_toArray, List.set_cons_succ, List.set_cons_zero])))
    refine mm_nil fun u7 => ?_
    go_wp2_with (first
      | ((with_reducible refine ls_skip ?_ ?_); (exact rfl); (try simp only [Act.put, List.setIfInBounds_toArray, List.set_cons_succ, List.set_cons_zero]))
      | ((with_reducible refine ck_load ?_); first | refine ls_load rfl inferInstance inferInstance ?_ | refine ls_cell rfl inferInstance inferInstance ?_))
    go_ret
    exact ⟨rfl, KW.below _⟩
set_option maxRecDepth 100000 in
set_option maxHeartbeats 3200000 in
theorem dot_any (x y z u s t : Int) (w : World) : Calls Try.prog 10 #[ptv x y, ptv z u, ptv s t] w (Ret (.int .i64 (dotV x y z u s t)) w) := by
  have HA := fun w => all_any x y z u s t w
  unfold dotV
  cases h : (mayP x y && mayP z u && mayP s t) with
  | false =>
    rw [h] at HA
    replace HA := Lib.hid HA
    rw [if_neg (by decide)]
    refine enter fun u => ?_
    go_enter Try.func10, Try.ntmps10
    go_wp2_with (first
      | ((with_reducible refine ls_skip ?_ ?_); (exact rfl); (try simp only [Act.put, List.setIfInBounds_toArray, List.set_cons_succ, List.set_cons_zero]))
      | ((with_reducible refine ck_box ?_); refine list_box rfl fun _ _ => ?_)
      | ((with_reducible refine ck_load ?_); first | refine ls_load rfl inferInstance inferInstance ?_ | refine ls_cell rfl inferInstance inferInstance ?_)
      | (go_at_call 24; (with_reducible refine (HA.out _).mono ?_); rintro e w' ⟨rfl, hb'⟩; obtain ⟨_, rfl⟩ := KW.go _ hb'; clear hb'))
    go_ret
    exact ⟨rfl, KW.below _⟩
  | true =>
    rw [h] at HA
    replace HA := Lib.hid HA
    rw [if_pos rfl]
    obtain ⟨h1, h2, h3⟩ := and3 h
    have HU := fun w => step_any x y z u h1 h2 w
    have HV := fun w => step_any x y s t h1 h3 w
    have a1 := mayP_iff.1 h1
    have a2 := mayP_iff.1 h2
    have a3 := mayP_iff.1 h3
    have c1 := @mul_bd (z - x) (s - x) (by omega) (by omega) (by omega) (by omega)
    have c2 := @mul_bd (u - y) (t - y) (by omega) (by omega) (by omega) (by omega)
    unfold dts
    generalize z - x = p at *
    generalize u - y = q at *
    generalize s - x = r at *
    generalize t - y = o at *
    have w1 : IntKind.i64.wrap (p * r) = p * r := by rw [IntKind.wrap_i64]; omega
    have w2 : IntKind.i64.wrap (q * o) = q * o := by rw [IntKind.wrap_i64]; omega
    have w3 : IntKind.i64.wrap (p * r + q * o) = p * r + q * o := by rw [IntKind.wrap_i64]; omega
    clear a1 a2 a3 h1 h2 h3 h c1 c2
    replace HU := Lib.hid HU
    replace HV := Lib.hid HV
    refine enter fun u => ?_
    go_enter Try.func10, Try.ntmps10
    go_wp2_with (first
      | ((with_reducible refine ls_skip ?_ ?_); (exact rfl); (try simp only [Act.put, List.setIfInBounds_toArray, List.set_cons_succ, List.set_cons_zero]))
      | ((with_reducible refine ck_box ?_); refine list_box rfl fun _ _ => ?_)
      | ((with_reducible refine ck_load ?_); first | refine ls_load rfl inferInstance inferInstance ?_ | refine ls_cell rfl inferInstance inferInstance ?_)
      | (go_at_call 24; (with_reducible refine (HA.out _).mono ?_); rintro e w' ⟨rfl, hb'⟩; obtain ⟨_, rfl⟩ := KW.go _ hb'; clear hb'))
    refine region_mixS [.take 0, .take 1, .take 2, .take 3, .take 4, .take 5, .two 6 7, .sole 8, .sole 9] _ (Sub.both (h := Sub.both (h := Sub.both (h := Sub.nil)))) (by kernel_rfl) (by kernel_rfl) ?_
    simp only [picksM, Mv.pick, List.filterMap_cons, List.filterMap_nil, List.getElem?_cons_zero, List.getElem?_cons_succ, Option.map_some]
    refine MM.out ?_
    repeat (first
      | ((with_reducible apply mm_load); exact rfl; infer_instance; infer_instance; (try simp only [Act.put, List.setIfInBounds_toArray, List.set_cons_succ, List.set_cons_zero]))
      | ((with_reducible apply mm_cell); exact rfl; infer_instance; infer_instance; (try simp only [Act.put, List.setIfInBounds_toArray, List.set_cons_succ, List.set_cons_zero]))
      | ((with_reducible apply mm_callf (f := 25)); (intro _; go_simp; try exact rfl); (with_reducible exact fun _ u => HU.out _); (try simp only [Act.put, List.setIfInBounds_toArray, List.set_cons_succ, List.set_cons_zero]))
      | ((with_reducible apply mo_callf (f := 25)); infer_instance; (intro _; go_simp; try exact rfl); (with_reducible exact fun u => HU.out _); (try simp only [Act.put, List.setIfInBounds_toArray, List.set_cons_succ, List.set_cons_zero]))
      | ((with_reducible apply mm_callf (f := 25)); (intro _; go_simp; try exact rfl); (with_reducible exact fun _ u => HV.out _); (try simp only [Act.put, List.setIfInBounds_toArray, List.set_cons_succ, List.set_cons_zero]))
      | ((with_reducible apply mo_callf (f := 25)); infer_instance; (intro _; go_simp; try exact rfl); (with_reducible exact fun u => HV.out _); (try simp only [Act.put, List.setIfInBounds_toArray, List.set_cons_succ, List.set_cons_zero]))
      | ((with_reducible apply mm_value); (intro _; go_simp; try exact rfl); (try simp only [Act.put, List.setIfInBounds_toArray, List.set_cons_succ, List.set_cons_zero]))
      | ((with_reducible apply mo_store); exact rfl; exact rfl; infer_instance; infer_instance; infer_instance; infer_instance; (try simp only [Act.put, List.setIfInBounds_toArray, List.set_cons_succ, List.set_cons_zero]))
      | ((with_reducible apply mo_put); exact rfl; exact rfl; infer_instance; infer_instance; infer_instance; infer_instance; (try simp only [Act.put, List.setIfInBounds_toArray, List.set_cons_succ, List.set_cons_zero]))
      | ((with_reducible apply mo_alloc); infer_instance; infer_instance; intro _; (try simp only [Act.put, List.setIfInBounds_toArray, List.set_cons_succ, List.set_cons_zero]))
      | ((with_reducible apply mo_three); (decide); (decide); infer_instance; infer_instance; infer_instance; intro _ _ _; (try simp only [Act.put, List.setIfInBounds_toArray, List.set_cons_succ, List.set_cons_zero]))
      | ((with_reducible apply mo_four); (decide); (decide); infer_instance; infer_instance; infer_instance; infer_instance; intro _ _ _ _; (try simp only [Act.put, List.setIfInBounds_toArray, List.set_cons_succ, List.set_cons_zero]))
      | ((with_reducible apply mo_two); infer_instance; infer_instance; (decide); intro _ _; (try simp only [Act.put, List.setIfInBounds_toArray, List.set_cons_succ, List.set_cons_zero]))
      | ((with_reducible apply mo_load); infer_instance; exact rfl; infer_instance; infer_instance; (try simp only [Act.put, List.setIfInBounds_toArray, List.set_cons_succ, List.set_cons_zero]))
      | ((with_reducible apply mo_cell); infer_instance; exact rfl; infer_instance; infer_instance; (try simp only [Act.put, List.setIfInBounds_toArray, List.set_cons_succ, List.set_cons_zero]))
      | ((with_reducible apply mo_value); infer_instance; (intro _; go_simp; try exact rfl); (try simp only [Act.put, List.setIfInBounds_toArray, List.set_cons_succ, List.set_cons_zero])))
    refine mm_nil fun u7 => ?_
    go_wp2_with (first
      | ((with_reducible refine ls_skip ?_ ?_); (exact rfl); (try simp only [Act.put, List.setIfInBounds_toArray, List.set_cons_succ, List.set_cons_zero]))
      | ((with_reducible refine ck_load ?_); first | refine ls_load rfl inferInstance inferInstance ?_ | refine ls_cell rfl inferInstance inferInstance ?_))
    go_ret
    exact ⟨rfl, KW.below _⟩
set_option maxRecDepth 100000 in
set_option maxHeartbeats 3200000 in
theorem far_any (x y z u : Int) (w : World) : Calls Try.prog 12 #[ptv x y, ptv z u] w (Ret (.int .i64 (dotV x y z u z u)) w) := by
  have HD := Lib.hid (fun w => dot_any x y z u z u w)
  generalize dotV x y z u z u = e at *
  refine enter fun u => ?_
  go_enter Try.func12, Try.ntmps12
  go_wp2_with (first
    | ((with_reducible refine ls_skip ?_ ?_); (exact rfl); (try simp only [Act.put, List.setIfInBounds_toArray, List.set_cons_succ, List.set_cons_zero]))
    | ((with_reducible refine ck_box ?_); refine list_box rfl fun _ _ => ?_)
    | ((with_reducible refine ck_load ?_); first | refine ls_load rfl inferInstance inferInstance ?_ | refine ls_cell rfl inferInstance inferInstance ?_)
    | (go_at_call 10; (with_reducible refine (HD.out _).mono ?_); rintro e w' ⟨rfl, hb'⟩; obtain ⟨_, rfl⟩ := KW.go _ hb'; clear hb'))
  go_ret
  exact ⟨rfl, KW.below _⟩
set_option maxRecDepth 100000 in
set_option maxHeartbeats 3200000 in
theorem less_any (x y z u : Int) (w : World) : Calls Try.prog 13 #[ptv x y, ptv z u] w (Ret (.bool (lessP x y z u)) w) := by
  have HA := fun w => may_any x y w
  have HB := fun w => may_any z u w
  unfold lessP
  generalize mayP x y = p at *
  generalize mayP z u = q at *
  obtain ⟨a, e1⟩ : ∃ a, decide (x < z) = a := ⟨_, rfl⟩
  obtain ⟨b, e2⟩ : ∃ b, (x == z) = b := ⟨_, rfl⟩
  obtain ⟨c, e3⟩ : ∃ c, decide (y < u) = c := ⟨_, rfl⟩
  rw [e1, e2, e3]
  replace HA := Lib.hid HA
  replace HB := Lib.hid HB
  cases p
  · refine enter fun u => ?_
    go_enter Try.func13, Try.ntmps13
    go_wp2_with (first
      | ((with_reducible refine ls_skip ?_ ?_); (exact rfl); (try simp only [Act.put, List.setIfInBounds_toArray, List.set_cons_succ, List.set_cons_zero]))
      | ((with_reducible refine ck_box ?_); refine list_box rfl fun _ _ => ?_)
      | ((with_reducible refine ck_load ?_); first | refine ls_load rfl inferInstance inferInstance ?_ | refine ls_cell rfl inferInstance inferInstance ?_)
      | ((with_reducible refine ck_gload ?_); first | refine lsg_load rfl rfl inferInstance inferInstance ?_ | refine lsg_cell rfl rfl inferInstance inferInstance ?_)
      | (go_at_call 7; (with_reducible refine (HA.out _).mono ?_); rintro e w' ⟨rfl, hb'⟩; obtain ⟨_, rfl⟩ := KW.go _ hb'; clear hb')
      | (go_at_call 7; (with_reducible refine (HB.out _).mono ?_); rintro e w' ⟨rfl, hb'⟩; obtain ⟨_, rfl⟩ := KW.go _ hb'; clear hb'))
    go_ret
    exact ⟨rfl, KW.below _⟩
  cases q
  · refine enter fun u => ?_
    go_enter Try.func13, Try.ntmps13
    go_wp2_with (first
      | ((with_reducible refine ls_skip ?_ ?_); (exact rfl); (try simp only [Act.put, List.setIfInBounds_toArray, List.set_cons_succ, List.set_cons_zero]))
      | ((with_reducible refine ck_box ?_); refine list_box rfl fun _ _ => ?_)
      | ((with_reducible refine ck_load ?_); first | refine ls_load rfl inferInstance inferInstance ?_ | refine ls_cell rfl inferInstance inferInstance ?_)
      | ((with_reducible refine ck_gload ?_); first | refine lsg_load rfl rfl inferInstance inferInstance ?_ | refine lsg_cell rfl rfl inferInstance inferInstance ?_)
      | (go_at_call 7; (with_reducible refine (HA.out _).mono ?_); rintro e w' ⟨rfl, hb'⟩; obtain ⟨_, rfl⟩ := KW.go _ hb'; clear hb')
      | (go_at_call 7; (with_reducible refine (HB.out _).mono ?_); rintro e w' ⟨rfl, hb'⟩; obtain ⟨_, rfl⟩ := KW.go _ hb'; clear hb'))
    go_ret
    exact ⟨rfl, KW.below _⟩
  cases a <;> cases b
  all_goals (
    refine enter fun u => ?_
    go_enter Try.func13, Try.ntmps13
    go_wp2_with (first
      | ((with_reducible refine ls_skip ?_ ?_); (exact rfl); (try simp only [Act.put, List.setIfInBounds_toArray, List.set_cons_succ, List.set_cons_zero]))
      | ((with_reducible refine ck_box ?_); refine list_box rfl fun _ _ => ?_)
      | ((with_reducible refine ck_load ?_); first | refine ls_load rfl inferInstance inferInstance ?_ | refine ls_cell rfl inferInstance inferInstance ?_)
      | ((with_reducible refine ck_gload ?_); first | refine lsg_load rfl rfl inferInstance inferInstance ?_ | refine lsg_cell rfl rfl inferInstance inferInstance ?_)
      | (go_at_call 7; (with_reducible refine (HA.out _).mono ?_); rintro e w' ⟨rfl, hb'⟩; obtain ⟨_, rfl⟩ := KW.go _ hb'; clear hb')
      | (go_at_call 7; (with_reducible refine (HB.out _).mono ?_); rintro e w' ⟨rfl, hb'⟩; obtain ⟨_, rfl⟩ := KW.go _ hb'; clear hb'))
    go_ret
    exact ⟨rfl, KW.below _⟩)
end Go.Proofs.Ytnbipfoipnaafaa.PtW
