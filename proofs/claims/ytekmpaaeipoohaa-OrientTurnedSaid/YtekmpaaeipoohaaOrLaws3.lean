/-
  The walk of the law OrientTurned.
-/
import Derived.Test.YtekmpaaeipoohaaOrLaws2
import Derived.Test.YtekmpaaeipoohaaClos
namespace Go.Proofs.Ytekmpaaeipoohaa.OrW
open Go.RowKit
open KM PtM OrM PtW
set_option maxRecDepth 100000 in
instance scalU8 : Scal Try.prog 5 := ⟨by kernel_rfl⟩
theorem rturned_ex (x y q : Int) : ∃ X Y, ∀ w, Calls Try.prog 22 #[ptv x y, .int .i64 q] w (Ret (ptv X Y) w) := by
  cases h : mayP x y with
  | false => exact ⟨_, _, fun w => rturned_no x y q h w⟩
  | true => exact ⟨_, _, fun w => rturned_yes x y q h w⟩
set_option maxRecDepth 100000 in
set_option maxHeartbeats 3200000 in
theorem turn_any (x y q X Y : Int) (hq : 0 ≤ q ∧ q ≤ 255) (HT : Hid (∀ w, Calls Try.prog 22 #[ptv x y, .int .i64 q] w (Ret (ptv X Y) w))) (w : World) (g : Nat) (t : TypeId) (ho : Old w g #[.int .u8 q] t) :
    Calls Try.prog 21 #[ptv x y, .pointer (some ⟨g, 0, none⟩)] w (Ret (ptv X Y) w) := by
  have c1 : IntKind.i64.wrap q = q := by rw [IntKind.wrap_i64]; omega
  clear hq
  refine enter fun u => ?_
  go_enter Try.func21, Try.ntmps21
  go_wp2_with (first
    | ((with_reducible refine ls_skip ?_ ?_); (exact rfl); (try simp only [Act.put, List.setIfInBounds_toArray, List.set_cons_succ, List.set_cons_zero]))
    | ((with_reducible refine ck_box ?_); refine list_box rfl fun _ _ => ?_)
    | ((with_reducible refine ck_alloc ?_); refine ls_alloc inferInstance fun _ _ => ?_)
    | ((with_reducible refine ck_load ?_); first | refine ls_load rfl inferInstance inferInstance ?_ | refine ls_cell rfl inferInstance inferInstance ?_)
    | ((with_reducible refine ck_load ?_); refine ls_old rfl inferInstance inferInstance ?_)
    | ((with_reducible refine ck_store ?_); refine ls_store rfl rfl inferInstance inferInstance inferInstance fun _ => ?_)
    | (go_at_call 22; (with_reducible refine (HT.out _).mono ?_); rintro e w' ⟨rfl, hb'⟩; obtain ⟨_, rfl⟩ := KW.go _ hb'; clear hb'))
  exact bd_cell Try.results21 rfl inferInstance inferInstance ⟨rfl, KW.below _⟩
theorem turn_of (x y q : Int) (hq : 0 ≤ q ∧ q ≤ 255) : ∃ X Y : Int, (∀ (w : World) (g : Nat) (t : TypeId), Old w g #[.int .u8 q] t → Calls Try.prog 21 #[ptv x y, .pointer (some ⟨g, 0, none⟩)] w (Ret (ptv X Y) w)) ∧
    (mayP x y = true → X = tx (qk q) x y ∧ Y = ty (qk q) x y) := by
  cases h : mayP x y with
  | false => exact ⟨_, _, turn_any x y q 0 0 hq (Lib.hid fun w => rturned_no x y q h w), fun h => by cases h⟩
  | true => exact ⟨_, _, turn_any x y q _ _ hq (Lib.hid fun w => rturned_yes x y q h w), fun _ => ⟨rfl, rfl⟩⟩
set_option maxRecDepth 100000 in
set_option maxHeartbeats 6400000 in
theorem orientTurned_no (x y z u s t p q k : Int) (hk : 0 ≤ k ∧ k ≤ 255) (h : (lineP x y z u && lineP s t p q) = false) (w : World) : Calls Try.prog 6 #[sgv x y z u, sgv s t p q, .int .u8 k] w (TrueAt8 w) := by
  have HW := Lib.hid (fun w => awake8_any w)
  obtain ⟨X1, Y1, T1, _⟩ := turn_of x y k hk
  obtain ⟨X2, Y2, T2, _⟩ := turn_of z u k hk
  obtain ⟨X3, Y3, T3, _⟩ := turn_of s t k hk
  obtain ⟨X4, Y4, T4, _⟩ := turn_of p q k hk
  have HA := fun w => rline_any x y z u w
  have HB := fun w => rline_any s t p q w
  generalize lineP x y z u = m at *
  generalize lineP s t p q = n at *
  replace T1 := Lib.hid T1
  replace T2 := Lib.hid T2
  replace T3 := Lib.hid T3
  replace T4 := Lib.hid T4
  replace HA := Lib.hid HA
  replace HB := Lib.hid HB
  clear hk
  cases m
  · clear h
    refine enter fun u => ?_
    go_enter Try.func6, Try.ntmps6
    go_wp2_with (first
      | ((with_reducible refine ls_skip ?_ ?_); (exact rfl); (try simp only [Act.put, List.setIfInBounds_toArray, List.set_cons_succ, List.set_cons_zero]))
      | ((with_reducible refine ck_box ?_); refine list_box rfl fun _ _ => ?_)
      | ((with_reducible refine ck_box ?_); first | refine ls_box1 (v := .int _ _) rfl rfl fun _ _ => ?_ | refine ls_box1 (v := .bool _) rfl rfl fun _ _ => ?_))
    refine region_mixS [.take 0, .take 1, .take 2, .take 3, .take 4, .take 5, .take 6, .take 7, .take 8, .take 9, .take 10, .take 11, .take 12, .take 13, .take 14, .take 15, .take 16, .take 17, .two 18 19, .sole 20, .sole 21] _ (Sub.both (h := Sub.both (h := Sub.both (h := Sub.nil)))) (by kernel_rfl) (by kernel_rfl) ?_
    simp only [picksM, Mv.pick, List.filterMap_cons, List.filterMap_nil, List.getElem?_cons_zero, List.getElem?_cons_succ, Option.map_some]
    refine MM.out ?_
    repeat (first
      | ((with_reducible apply mm_load); exact rfl; infer_instance; infer_instance; (try simp only [Act.put, List.setIfInBounds_toArray, List.set_cons_succ, List.set_cons_zero]))
      | ((with_reducible apply mm_cell); exact rfl; infer_instance; infer_instance; (try simp only [Act.put, List.setIfInBounds_toArray, List.set_cons_succ, List.set_cons_zero]))
      | ((with_reducible apply mm_Seg); exact rfl; exact rfl; (try simp only [Act.put, List.setIfInBounds_toArray, List.set_cons_succ, List.set_cons_zero]))
      | ((with_reducible apply mm_callv (f := 21)); (intro _; go_simp; try exact rfl); (with_reducible exact fun L hL u => T1.out u.w _ _ ⟨u.block (h := Has.of_sub hL inferInstance)⟩); (try simp only [Act.put, List.setIfInBounds_toArray, List.set_cons_succ, List.set_cons_zero]))
      | ((with_reducible apply mm_callv (f := 21)); (intro _; go_simp; try exact rfl); (with_reducible exact fun L hL u => T2.out u.w _ _ ⟨u.block (h := Has.of_sub hL inferInstance)⟩); (try simp only [Act.put, List.setIfInBounds_toArray, List.set_cons_succ, List.set_cons_zero]))
      | ((with_reducible apply mm_callv (f := 21)); (intro _; go_simp; try exact rfl); (with_reducible exact fun L hL u => T3.out u.w _ _ ⟨u.block (h := Has.of_sub hL inferInstance)⟩); (try simp only [Act.put, List.setIfInBounds_toArray, List.set_cons_succ, List.set_cons_zero]))
      | ((with_reducible apply mm_callv (f := 21)); (intro _; go_simp; try exact rfl); (with_reducible exact fun L hL u => T4.out u.w _ _ ⟨u.block (h := Has.of_sub hL inferInstance)⟩); (try simp only [Act.put, List.setIfInBounds_toArray, List.set_cons_succ, List.set_cons_zero]))
      | ((with_reducible apply mm_value); (intro _; go_simp; try exact rfl); (try simp only [Act.put, List.setIfInBounds_toArray, List.set_cons_succ, List.set_cons_zero]))
      | ((with_reducible apply mo_store); exact rfl; exact rfl; infer_instance; infer_instance; infer_instance; infer_instance; (try simp only [Act.put, List.setIfInBounds_toArray, List.set_cons_succ, List.set_cons_zero]))
      | ((with_reducible apply mo_put); exact rfl; exact rfl; infer_instance; infer_instance; infer_instance; infer_instance; (try simp only [Act.put, List.setIfInBounds_toArray, List.set_cons_succ, List.set_cons_zero]))
      | ((with_reducible apply mo_alloc); infer_instance; infer_instance; intro _; (try simp only [Act.put, List.setIfInBounds_toArray, List.set_cons_succ, List.set_cons_zero]))
      | ((with_reducible apply mo_three); (decide); (decide); infer_instance; infer_instance; infer_instance; intro _ _ _; (try simp only [Act.put, List.setIfInBounds_toArray, List.set_cons_succ, List.set_cons_zero]))
      | ((with_reducible apply mo_four); (decide); (decide); infer_instance; infer_instance; infer_instance; infer_instance; intro _ _ _ _; (try simp only [Act.put, List.setIfInBounds_toArray, List.set_cons_succ, List.set_cons_zero]))
      | ((with_reducible apply mo_two); infer_instance; infer_instance; (decide); intro _ _; (try simp only [Act.put, List.setIfInBounds_toArray, List.set_cons_succ, List.set_cons_zero]))
      | ((with_reducible apply mo_load); infer_instance; exact rfl; infer_instance; infer_instance; (try simp only [Act.put, List.setIfInBounds_toArray, List.set_cons_succ, List.set_cons_zero]))
      | ((with_reducible apply mo_cell); infer_instance; exact rfl; infer_instance; infer_instance; (try simp only [Act.put, List.setIfInBounds_toArray, List.set_cons_succ, List.set_cons_zero]))
      | ((with_reducible apply mo_value); infer_instance; (intro _; go_simp; try exact rfl); (try simp only [Act.put, List.setIfInBounds_toArray, List.set_cons_succ, List.set_cons_zero])))
    refine mm_nil fun u7 => ?_
    go_wp2_with (first
      | ((with_reducible refine ls_skip ?_ ?_); (exact rfl); (try simp only [Act.put, List.setIfInBounds_toArray, List.set_cons_succ, List.set_cons_zero]))
      | ((with_reducible refine ck_load ?_); first | refine ls_load rfl inferInstance inferInstance ?_ | refine ls_cell rfl inferInstance inferInstance ?_)
      | ((with_reducible refine ck_gload ?_); first | refine lsg_load rfl rfl inferInstance inferInstance ?_ | refine lsg_cell rfl rfl inferInstance inferInstance ?_)
      | (go_at_call 16; (with_reducible refine (HA.out _).mono ?_); rintro e w' ⟨rfl, hb'⟩; obtain ⟨_, rfl⟩ := KW.go _ hb'; clear hb')
      | (go_at_call 16; (with_reducible refine (HB.out _).mono ?_); rintro e w' ⟨rfl, hb'⟩; obtain ⟨_, rfl⟩ := KW.go _ hb'; clear hb')
      | (go_at_call 15; (with_reducible refine (HW.out _).mono ?_); rintro e w' ⟨rfl, hb'⟩; obtain ⟨_, rfl⟩ := KW.go _ hb'; clear hb'))
    go_ret
    exact ⟨rfl, KW.below _⟩
  cases n
  · clear h
    refine enter fun u => ?_
    go_enter Try.func6, Try.ntmps6
    go_wp2_with (first
      | ((with_reducible refine ls_skip ?_ ?_); (exact rfl); (try simp only [Act.put, List.setIfInBounds_toArray, List.set_cons_succ, List.set_cons_zero]))
      | ((with_reducible refine ck_box ?_); refine list_box rfl fun _ _ => ?_)
      | ((with_reducible refine ck_box ?_); first | refine ls_box1 (v := .int _ _) rfl rfl fun _ _ => ?_ | refine ls_box1 (v := .bool _) rfl rfl fun _ _ => ?_))
    refine region_mixS [.take 0, .take 1, .take 2, .take 3, .take 4, .take 5, .take 6, .take 7, .take 8, .take 9, .take 10, .take 11, .take 12, .take 13, .take 14, .take 15, .take 16, .take 17, .two 18 19, .sole 20, .sole 21] _ (Sub.both (h := Sub.both (h := Sub.both (h := Sub.nil)))) (by kernel_rfl) (by kernel_rfl) ?_
    simp only [picksM, Mv.pick, List.filterMap_cons, List.filterMap_nil, List.getElem?_cons_zero, List.getElem?_cons_succ, Option.map_some]
    refine MM.out ?_
    repeat (first
      | ((with_reducible apply mm_load); exact rfl; infer_instance; infer_instance; (try simp only [Act.put, List.setIfInBounds_toArray, List.set_cons_succ, List.set_cons_zero]))
      | ((with_reducible apply mm_cell); exact rfl; infer_instance; infer_instance; (try simp only [Act.put, List.setIfInBounds_toArray, List.set_cons_succ, List.set_cons_zero]))
      | ((with_reducible apply mm_Seg); exact rfl; exact rfl; (try simp only [Act.put, List.setIfInBounds_toArray, List.set_cons_succ, List.set_cons_zero]))
      | ((with_reducible apply mm_callv (f := 21)); (intro _; go_simp; try exact rfl); (with_reducible exact fun L hL u => T1.out u.w _ _ ⟨u.block (h := Has.of_sub hL inferInstance)⟩); (try simp only [Act.put, List.setIfInBounds_toArray, List.set_cons_succ, List.set_cons_zero]))
      | ((with_reducible apply mm_callv (f := 21)); (intro _; go_simp; try exact rfl); (with_reducible exact fun L hL u => T2.out u.w _ _ ⟨u.block (h := Has.of_sub hL inferInstance)⟩); (try simp only [Act.put, List.setIfInBounds_toArray, List.set_cons_succ, List.set_cons_zero]))
      | ((with_reducible apply mm_callv (f := 21)); (intro _; go_simp; try exact rfl); (with_reducible exact fun L hL u => T3.out u.w _ _ ⟨u.block (h := Has.of_sub hL inferInstance)⟩); (try simp only [Act.put, List.setIfInBounds_toArray, List.set_cons_succ, List.set_cons_zero]))
      | ((with_reducible apply mm_callv (f := 21)); (intro _; go_simp; try exact rfl); (with_reducible exact fun L hL u => T4.out u.w _ _ ⟨u.block (h := Has.of_sub hL inferInstance)⟩); (try simp only [Act.put, List.setIfInBounds_toArray, List.set_cons_succ, List.set_cons_zero]))
      | ((with_reducible apply mm_value); (intro _; go_simp; try exact rfl); (try simp only [Act.put, List.setIfInBounds_toArray, List.set_cons_succ, List.set_cons_zero]))
      | ((with_reducible apply mo_store); exact rfl; exact rfl; infer_instance; infer_instance; infer_instance; infer_instance; (try simp only [Act.put, List.setIfInBounds_toArray, List.set_cons_succ, List.set_cons_zero]))
      | ((with_reducible apply mo_put); exact rfl; exact rfl; infer_instance; infer_instance; infer_instance; infer_instance; (try simp only [Act.put, List.setIfInBounds_toArray, List.set_cons_succ, List.set_cons_zero]))
      | ((with_reducible apply mo_alloc); infer_instance; infer_instance; intro _; (try simp only [Act.put, List.setIfInBounds_toArray, List.set_cons_succ, List.set_cons_zero]))
      | ((with_reducible apply mo_three); (decide); (decide); infer_instance; infer_instance; infer_instance; intro _ _ _; (try simp only [Act.put, List.setIfInBounds_toArray, List.set_cons_succ, List.set_cons_zero]))
      | ((with_reducible apply mo_four); (decide); (decide); infer_instance; infer_instance; infer_instance; infer_instance; intro _ _ _ _; (try simp only [Act.put, List.setIfInBounds_toArray, List.set_cons_succ, List.set_cons_zero]))
      | ((with_reducible apply mo_two); infer_instance; infer_instance; (decide); intro _ _; (try simp only [Act.put, List.setIfInBounds_toArray, List.set_cons_succ, List.set_cons_zero]))
      | ((with_reducible apply mo_load); infer_instance; exact rfl; infer_instance; infer_instance; (try simp only [Act.put, List.setIfInBounds_toArray, List.set_cons_succ, List.set_cons_zero]))
      | ((with_reducible apply mo_cell); infer_instance; exact rfl; infer_instance; infer_instance; (try simp only [Act.put, List.setIfInBounds_toArray, List.set_cons_succ, List.set_cons_zero]))
      | ((with_reducible apply mo_value); infer_instance; (intro _; go_simp; try exact rfl); (try simp only [Act.put, List.setIfInBounds_toArray, List.set_cons_succ, List.set_cons_zero])))
    refine mm_nil fun u7 => ?_
    go_wp2_with (first
      | ((with_reducible refine ls_skip ?_ ?_); (exact rfl); (try simp only [Act.put, List.setIfInBounds_toArray, List.set_cons_succ, List.set_cons_zero]))
      | ((with_reducible refine ck_load ?_); first | refine ls_load rfl inferInstance inferInstance ?_ | refine ls_cell rfl inferInstance inferInstance ?_)
      | ((with_reducible refine ck_gload ?_); first | refine lsg_load rfl rfl inferInstance inferInstance ?_ | refine lsg_cell rfl rfl inferInstance inferInstance ?_)
      | (go_at_call 16; (with_reducible refine (HA.out _).mono ?_); rintro e w' ⟨rfl, hb'⟩; obtain ⟨_, rfl⟩ := KW.go _ hb'; clear hb')
      | (go_at_call 16; (with_reducible refine (HB.out _).mono ?_); rintro e w' ⟨rfl, hb'⟩; obtain ⟨_, rfl⟩ := KW.go _ hb'; clear hb')
      | (go_at_call 15; (with_reducible refine (HW.out _).mono ?_); rintro e w' ⟨rfl, hb'⟩; obtain ⟨_, rfl⟩ := KW.go _ hb'; clear hb'))
    go_ret
    exact ⟨rfl, KW.below _⟩
  · cases h
set_option maxRecDepth 100000 in
set_option maxHeartbeats 6400000 in
theorem orientTurned_yes (x y z u s t p q k : Int) (hk : 0 ≤ k ∧ k ≤ 255) (h1 : lineP x y z u = true) (h2 : lineP s t p q = true) (w : World) : Calls Try.prog 6 #[sgv x y z u, sgv s t p q, .int .u8 k] w (TrueAt8 w) := by
  have HW := Lib.hid (fun w => awake8_any w)
  obtain ⟨a1, b1, _⟩ := line_iff.1 h1
  obtain ⟨a2, b2, _⟩ := line_iff.1 h2
  obtain ⟨X1, Y1, T1, E1⟩ := turn_of x y k hk
  obtain ⟨X2, Y2, T2, E2⟩ := turn_of z u k hk
  obtain ⟨X3, Y3, T3, E3⟩ := turn_of s t k hk
  obtain ⟨X4, Y4, T4, E4⟩ := turn_of p q k hk
  obtain ⟨rfl, rfl⟩ := E1 a1
  obtain ⟨rfl, rfl⟩ := E2 b1
  obtain ⟨rfl, rfl⟩ := E3 a2
  obtain ⟨rfl, rfl⟩ := E4 b2
  have HA := fun w => rline_any x y z u w
  have HB := fun w => rline_any s t p q w
  rw [h1] at HA
  rw [h2] at HB
  have U1 := fun w => touch_any (tx (qk k) x y) (ty (qk k) x y) (tx (qk k) z u) (ty (qk k) z u) (tx (qk k) s t) (ty (qk k) s t) (tx (qk k) p q) (ty (qk k) p q) w
  have U2 := fun w => touch_any x y z u s t p q w
  rw [touch_eq, touchT (qk k) h1 h2] at U1
  rw [touch_eq] at U2
  have A1 := fun w => along_any (tx (qk k) x y) (ty (qk k) x y) (tx (qk k) z u) (ty (qk k) z u) (tx (qk k) s t) (ty (qk k) s t) (tx (qk k) p q) (ty (qk k) p q) w
  have A2 := fun w => along_any x y z u s t p q w
  rw [alongT (qk k) h1 h2] at A1
  have S1 := fun w => side_any (tx (qk k) x y) (ty (qk k) x y) (tx (qk k) z u) (ty (qk k) z u) (tx (qk k) s t) (ty (qk k) s t) w
  have S2 := fun w => side_any x y z u s t w
  rw [sideT (qk k) a1 b1 a2] at S1
  have O1 := fun w => on_any (tx (qk k) x y) (ty (qk k) x y) (tx (qk k) z u) (ty (qk k) z u) (tx (qk k) p q) (ty (qk k) p q) w
  have O2 := fun w => on_any x y z u p q w
  rw [onT (qk k) h1 b2] at O1
  have R1 := fun w => order_any (tx (qk k) x y) (ty (qk k) x y) (tx (qk k) z u) (ty (qk k) z u) (tx (qk k) s t) (ty (qk k) s t) (tx (qk k) p q) (ty (qk k) p q) w
  have R2 := fun w => order_any x y z u s t p q w
  rw [orderT (qk k) h1 a2 b2] at R1
  generalize touchV x y z u s t p q = v at *
  generalize alongV x y z u s t p q = l at *
  generalize sideV x y z u s t = c at *
  generalize onV x y z u p q = o at *
  generalize orderV x y z u s t p q = r at *
  generalize tx (qk k) x y = X1 at *
  generalize ty (qk k) x y = Y1 at *
  generalize tx (qk k) z u = X2 at *
  generalize ty (qk k) z u = Y2 at *
  generalize tx (qk k) s t = X3 at *
  generalize ty (qk k) s t = Y3 at *
  generalize tx (qk k) p q = X4 at *
  generalize ty (qk k) p q = Y4 at *
  clear hk a1 b1 a2 b2 h1 h2 E1 E2 E3 E4
  replace T1 := Lib.hid T1
  replace T2 := Lib.hid T2
  replace T3 := Lib.hid T3
  replace T4 := Lib.hid T4
  replace HA := Lib.hid HA
  replace HB := Lib.hid HB
  replace U1 := Lib.hid U1
  replace U2 := Lib.hid U2
  replace A1 := Lib.hid A1
  replace A2 := Lib.hid A2
  replace S1 := Lib.hid S1
  replace S2 := Lib.hid S2
  replace O1 := Lib.hid O1
  replace O2 := Lib.hid O2
  replace R1 := Lib.hid R1
  replace R2 := Lib.hid R2
  refine enter fun u => ?_
  go_enter Try.func6, Try.ntmps6
  go_wp2_with (first
    | ((with_reducible refine ls_skip ?_ ?_); (exact rfl); (try simp only [Act.put, List.setIfInBounds_toArray, List.set_cons_succ, List.set_cons_zero]))
    | ((with_reducible refine ck_box ?_); refine list_box rfl fun _ _ => ?_)
    | ((with_reducible refine ck_box ?_); first | refine ls_box1 (v := .int _ _) rfl rfl fun _ _ => ?_ | refine ls_box1 (v := .bool _) rfl rfl fun _ _ => ?_))
  refine region_mixS [.take 0, .take 1, .take 2, .take 3, .take 4, .take 5, .take 6, .take 7, .take 8, .take 9, .take 10, .take 11, .take 12, .take 13, .take 14, .take 15, .take 16, .take 17, .two 18 19, .sole 20, .sole 21] _ (Sub.both (h := Sub.both (h := Sub.both (h := Sub.nil)))) (by kernel_rfl) (by kernel_rfl) ?_
  simp only [picksM, Mv.pick, List.filterMap_cons, List.filterMap_nil, List.getElem?_cons_zero, List.getElem?_cons_succ, Option.map_some]
  refine MM.out ?_
  repeat (first
    | ((with_reducible apply mm_load); exact rfl; infer_instance; infer_instance; (try simp only [Act.put, List.setIfInBounds_toArray, List.set_cons_succ, List.set_cons_zero]))
    | ((with_reducible apply mm_cell); exact rfl; infer_instance; infer_instance; (try simp only [Act.put, List.setIfInBounds_toArray, List.set_cons_succ, List.set_cons_zero]))
    | ((with_reducible apply mm_Seg); exact rfl; exact rfl; (try simp only [Act.put, List.setIfInBounds_toArray, List.set_cons_succ, List.set_cons_zero]))
    | ((with_reducible apply mm_callv (f := 21)); (intro _; go_simp; try exact rfl); (with_reducible exact fun L hL u => T1.out u.w _ _ ⟨u.block (h := Has.of_sub hL inferInstance)⟩); (try simp only [Act.put, List.setIfInBounds_toArray, List.set_cons_succ, List.set_cons_zero]))
    | ((with_reducible apply mm_callv (f := 21)); (intro _; go_simp; try exact rfl); (with_reducible exact fun L hL u => T2.out u.w _ _ ⟨u.block (h := Has.of_sub hL inferInstance)⟩); (try simp only [Act.put, List.setIfInBounds_toArray, List.set_cons_succ, List.set_cons_zero]))
    | ((with_reducible apply mm_callv (f := 21)); (intro _; go_simp; try exact rfl); (with_reducible exact fun L hL u => T3.out u.w _ _ ⟨u.block (h := Has.of_sub hL inferInstance)⟩); (try simp only [Act.put, List.setIfInBounds_toArray, List.set_cons_succ, List.set_cons_zero]))
    | ((with_reducible apply mm_callv (f := 21)); (intro _; go_simp; try exact rfl); (with_reducible exact fun L hL u => T4.out u.w _ _ ⟨u.block (h := Has.of_sub hL inferInstance)⟩); (try simp only [Act.put, List.setIfInBounds_toArray, List.set_cons_succ, List.set_cons_zero]))
    | ((with_reducible apply mm_value); (intro _; go_simp; try exact rfl); (try simp only [Act.put, List.setIfInBounds_toArray, List.set_cons_succ, List.set_cons_zero]))
    | ((with_reducible apply mo_store); exact rfl; exact rfl; infer_instance; infer_instance; infer_instance; infer_instance; (try simp only [Act.put, List.setIfInBounds_toArray, List.set_cons_succ, List.set_cons_zero]))
    | ((with_reducible apply mo_put); exact rfl; exact rfl; infer_instance; infer_instance; infer_instance; infer_instance; (try simp only [Act.put, List.setIfInBounds_toArray, List.set_cons_succ, List.set_cons_zero]))
    | ((with_reducible apply mo_alloc); infer_instance; infer_instance; intro _; (try simp only [Act.put, List.setIfInBounds_toArray, List.set_cons_succ, List.set_cons_zero]))
    | ((with_reducible apply mo_three); (decide); (decide); infer_instance; infer_instance; infer_instance; intro _ _ _; (try simp only [Act.put, List.setIfInBounds_toArray, List.set_cons_succ, List.set_cons_zero]))
    | ((with_reducible apply mo_four); (decide); (decide); infer_instance; infer_instance; infer_instance; infer_instance; intro _ _ _ _; (try simp only [Act.put, List.setIfInBounds_toArray, List.set_cons_succ, List.set_cons_zero]))
    | ((with_reducible apply mo_two); infer_instance; infer_instance; (decide); intro _ _; (try simp only [Act.put, List.setIfInBounds_toArray, List.set_cons_succ, List.set_cons_zero]))
    | ((with_reducible apply mo_load); infer_instance; exact rfl; infer_instance; infer_instance; (try simp only [Act.put, List.setIfInBounds_toArray, List.set_cons_succ, List.set_cons_zero]))
    | ((with_reducible apply mo_cell); infer_instance; exact rfl; infer_instance; infer_instance; (try simp only [Act.put, List.setIfInBounds_toArray, List.set_cons_succ, List.set_cons_zero]))
    | ((with_reducible apply mo_value); infer_instance; (intro _; go_simp; try exact rfl); (try simp only [Act.put, List.setIfInBounds_toArray, List.set_cons_succ, List.set_cons_zero])))
  refine mm_nil fun u7 => ?_
  go_wp2_with (first
    | ((with_reducible refine ls_skip ?_ ?_); (exact rfl); (try simp only [Act.put, List.setIfInBounds_toArray, List.set_cons_succ, List.set_cons_zero]))
    | ((with_reducible refine ck_load ?_); first | refine ls_load rfl inferInstance inferInstance ?_ | refine ls_cell rfl inferInstance inferInstance ?_)
    | ((with_reducible refine ck_gload ?_); first | refine lsg_load rfl rfl inferInstance inferInstance ?_ | refine lsg_cell rfl rfl inferInstance inferInstance ?_)
    | (go_at_call 16; (with_reducible refine (HA.out _).mono ?_); rintro e w' ⟨rfl, hb'⟩; obtain ⟨_, rfl⟩ := KW.go _ hb'; clear hb')
    | (go_at_call 16; (with_reducible refine (HB.out _).mono ?_); rintro e w' ⟨rfl, hb'⟩; obtain ⟨_, rfl⟩ := KW.go _ hb'; clear hb'))
  refine region (by kernel_rfl) (by kernel_rfl) fun _ => ?_
  refine QQ.out ?_
  repeat (first
    | ((with_reducible apply qq_skip); (exact rfl); (try simp only [Act.put, List.setIfInBounds_toArray, List.set_cons_succ, List.set_cons_zero]))
    | ((with_reducible apply qq_load); exact rfl; infer_instance; infer_instance; exact rfl; (try simp only [Act.put, List.setIfInBounds_toArray, List.set_cons_succ, List.set_cons_zero]))
    | ((with_reducible apply qq_cell); exact rfl; infer_instance; infer_instance; exact rfl; (try simp only [Act.put, List.setIfInBounds_toArray, List.set_cons_succ, List.set_cons_zero]))
    | ((with_reducible apply qq_callf (f := 20)); (intro _; go_simp; try exact rfl); (with_reducible exact fun u => U1.out _); exact rfl; (try simp only [Act.put, List.setIfInBounds_toArray, List.set_cons_succ, List.set_cons_zero]))
    | ((with_reducible apply qq_callf (f := 20)); (intro _; go_simp; try exact rfl); (with_reducible exact fun u => U2.out _); exact rfl; (try simp only [Act.put, List.setIfInBounds_toArray, List.set_cons_succ, List.set_cons_zero]))
    | ((with_reducible apply qq_callf (f := 19)); (intro _; go_simp; try exact rfl); (with_reducible exact fun u => A1.out _); exact rfl; (try simp only [Act.put, List.setIfInBounds_toArray, List.set_cons_succ, List.set_cons_zero]))
    | ((with_reducible apply qq_callf (f := 19)); (intro _; go_simp; try exact rfl); (with_reducible exact fun u => A2.out _); exact rfl; (try simp only [Act.put, List.setIfInBounds_toArray, List.set_cons_succ, List.set_cons_zero]))
    | ((with_reducible apply qq_callf (f := 10)); (intro _; go_simp; try exact rfl); (with_reducible exact fun u => S1.out _); exact rfl; (try simp only [Act.put, List.setIfInBounds_toArray, List.set_cons_succ, List.set_cons_zero]))
    | ((with_reducible apply qq_callf (f := 10)); (intro _; go_simp; try exact rfl); (with_reducible exact fun u => S2.out _); exact rfl; (try simp only [Act.put, List.setIfInBounds_toArray, List.set_cons_succ, List.set_cons_zero]))
    | ((with_reducible apply qq_callf (f := 12)); (intro _; go_simp; try exact rfl); (with_reducible exact fun u => O1.out _); exact rfl; (try simp only [Act.put, List.setIfInBounds_toArray, List.set_cons_succ, List.set_cons_zero]))
    | ((with_reducible apply qq_callf (f := 12)); (intro _; go_simp; try exact rfl); (with_reducible exact fun u => O2.out _); exact rfl; (try simp only [Act.put, List.setIfInBounds_toArray, List.set_cons_succ, List.set_cons_zero]))
    | ((with_reducible apply qq_callf (f := 14)); (intro _; go_simp; try exact rfl); (with_reducible exact fun u => R1.out _); exact rfl; (try simp only [Act.put, List.setIfInBounds_toArray, List.set_cons_succ, List.set_cons_zero]))
    | ((with_reducible apply qq_callf (f := 14)); (intro _; go_simp; try exact rfl); (with_reducible exact fun u => R2.out _); exact rfl; (try simp only [Act.put, List.setIfInBounds_toArray, List.set_cons_succ, List.set_cons_zero]))
    | ((with_reducible apply qq_callf (f := 15)); (intro _; go_simp; try exact rfl); (with_reducible exact fun u => HW.out _); exact rfl; (try simp only [Act.put, List.setIfInBounds_toArray, List.set_cons_succ, List.set_cons_zero]))
    | ((with_reducible apply qq_value); (intro _; go_simp; try exact rfl); exact rfl; (try simp only [Act.put, List.setIfInBounds_toArray, List.set_cons_succ, List.set_cons_zero])))
  refine qq_nil ?_
  rintro _ ⟨u8, rfl⟩
  go_wp2_with (fail)
  go_ret
  exact ⟨rfl, KW.below _⟩
theorem orientTurned_walk (x y z u s t p q k : Int) (hk : 0 ≤ k ∧ k ≤ 255) (w : World) : Calls Try.prog 6 #[sgv x y z u, sgv s t p q, .int .u8 k] w (TrueAt8 w) := by
  cases h : lineP x y z u && lineP s t p q with
  | false => exact orientTurned_no x y z u s t p q k hk h w
  | true =>
    rw [Bool.and_eq_true] at h
    exact orientTurned_yes x y z u s t p q k hk h.1 h.2 w
end Go.Proofs.Ytekmpaaeipoohaa.OrW
