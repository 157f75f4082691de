/-
  package meet: how lines meet.
-/
import Derived.Test.YtoahcjjndjdljaaMeFn2
namespace Go.Proofs.Ytoahcjjndjdljaa.MeW
open Go.RowKit
open KM PtM OrM PtW OrW MeM
/-- a meeting -/
structure MT where
  k : Int
  n : Int
  m : Int
  e : Int
  x : Int
  y : Int
  z : Int
  u : Int
abbrev MT.v (M : MT) : Value := mtv M.k M.n M.m M.e M.x M.y M.z M.u
section
variable (x y z u s t p q : Int)
/-- along one straight line: from the first point in common to the last -/
def strM (FX FY LX LY : Int) : MT := if (FX == LX && FY == LY) = true then ⟨1, endV x y FX FY, endV s t FX FY, 1, 0, 0, 0, 0⟩ else ⟨2, 0, 0, 0, FX, FY, LX, LY⟩
def flatM : MT := strM x y s t (pk x z s p (fB x y z u s t p q 4)) (pk y u t q (fB x y z u s t p q 4)) (pk x z s p (lB x y z u s t p q 4)) (pk y u t q (lB x y z u s t p q 4))
def crossM : MT := ⟨1, ab (crossV s t p q x y), ab (crossV x y z u s t), ab (crossV s t p q x y) + ab (crossV s t p q z u), 0, 0, 0, 0⟩
def zeroM : MT := ⟨0, 0, 0, 0, 0, 0, 0, 0⟩
def meetM : MT := if touchV x y z u s t p q = true then (if alongV x y z u s t p q = true then flatM x y z u s t p q else crossM x y z u s t p q) else zeroM
end
set_option maxRecDepth 100000 in
set_option maxHeartbeats 6400000 in
theorem straight_any (x y z u s t p q : Int) (h1 : lineP x y z u = true) (w : World) : Calls Try.prog 17 #[sgv x y z u, sgv s t p q] w (Ret (flatM x y z u s t p q).v w) := by
  have HC := fun w => common_any x y z u s t p q h1 w
  unfold flatM
  generalize pk x z s p (fB x y z u s t p q 4) = FX at *
  generalize pk y u t q (fB x y z u s t p q 4) = FY at *
  generalize pk x z s p (lB x y z u s t p q 4) = LX at *
  generalize pk y u t q (lB x y z u s t p q 4) = LY at *
  have HE := fun w => eqlPt FX FY LX LY w
  have H1 := Lib.hid (fun w => end_any x y z u FX FY w)
  have H2 := Lib.hid (fun w => end_any s t p q FX FY w)
  replace HC := Lib.hid HC
  unfold strM MT.v
  generalize endV x y FX FY = N at *
  generalize endV s t FX FY = M at *
  generalize (FX == LX && FY == LY) = b at *
  clear h1
  cases b
  · rw [if_neg (by decide)]
    refine enter fun u => ?_
    go_enter Try.func17, Try.ntmps17
    go_wp2_with (first
      | ((with_reducible refine ls_skip ?_ ?_); (exact rfl); (try simp only [Act.put, List.setIfInBounds_toArray, List.set_cons_succ, List.set_cons_zero]))
      | ((with_reducible refine ck_box ?_); refine list_box rfl fun _ _ => ?_)
      | ((with_reducible refine ck_alloc ?_); refine ls_alloc inferInstance fun _ _ => ?_)
      | ((with_reducible refine ck_load ?_); first | refine ls_load rfl inferInstance inferInstance ?_ | refine ls_cell rfl inferInstance inferInstance ?_)
      | ((with_reducible refine ck_store ?_); refine ls_store rfl rfl inferInstance inferInstance inferInstance fun _ => ?_)
      | ((with_reducible refine ck_build (t := 27) (xs := #[(0, _), (4, _), (5, _)]) ?_); refine ls_Meet_045 rfl rfl rfl ?_)
      | (go_at_call 32; (with_reducible refine (HC.out _).mono ?_); rintro e w' ⟨rfl, hb'⟩; obtain ⟨_, rfl⟩ := KW.go _ hb'; clear hb'))
    exact bd_cell Try.results17 rfl inferInstance inferInstance ⟨rfl, KW.below _⟩
  · rw [if_pos rfl]
    refine enter fun u => ?_
    go_enter Try.func17, Try.ntmps17
    go_wp2_with (first
      | ((with_reducible refine ls_skip ?_ ?_); (exact rfl); (try simp only [Act.put, List.setIfInBounds_toArray, List.set_cons_succ, List.set_cons_zero]))
      | ((with_reducible refine ck_box ?_); refine list_box rfl fun _ _ => ?_)
      | ((with_reducible refine ck_alloc ?_); refine ls_alloc inferInstance fun _ _ => ?_)
      | ((with_reducible refine ck_load ?_); first | refine ls_load rfl inferInstance inferInstance ?_ | refine ls_cell rfl inferInstance inferInstance ?_)
      | ((with_reducible refine ck_store ?_); refine ls_store rfl rfl inferInstance inferInstance inferInstance fun _ => ?_)
      | (go_at_call 32; (with_reducible refine (HC.out _).mono ?_); rintro e w' ⟨rfl, hb'⟩; obtain ⟨_, rfl⟩ := KW.go _ hb'; clear hb'))
    refine region_mixS [.take 0, .take 1, .take 2, .take 3, .take 4, .take 5, .take 6, .sole 7] _ (Sub.both (h := Sub.both (h := Sub.skip (h := Sub.both (h := Sub.both (h := Sub.nil)))))) (by kernel_rfl) (by kernel_rfl) ?_
    simp only [picksM, Mv.pick, List.filterMap_cons, List.filterMap_nil, List.getElem?_cons_zero, List.getElem?_cons_succ, Option.map_some]
    refine MM.out ?_
    repeat (first
      | ((with_reducible apply mm_load); exact rfl; infer_instance; infer_instance; (try simp only [Act.put, List.setIfInBounds_toArray, List.set_cons_succ, List.set_cons_zero]))
      | ((with_reducible apply mm_cell); exact rfl; infer_instance; infer_instance; (try simp only [Act.put, List.setIfInBounds_toArray, List.set_cons_succ, List.set_cons_zero]))
      | ((with_reducible apply mm_Meet_0123); exact rfl; exact rfl; exact rfl; exact rfl; (try simp only [Act.put, List.setIfInBounds_toArray, List.set_cons_succ, List.set_cons_zero]))
      | ((with_reducible apply mm_callf (f := 33)); (intro _; go_simp; try exact rfl); (with_reducible exact fun _ u => H1.out _); (try simp only [Act.put, List.setIfInBounds_toArray, List.set_cons_succ, List.set_cons_zero]))
      | ((with_reducible apply mo_callf (f := 33)); infer_instance; (intro _; go_simp; try exact rfl); (with_reducible exact fun u => H1.out _); (try simp only [Act.put, List.setIfInBounds_toArray, List.set_cons_succ, List.set_cons_zero]))
      | ((with_reducible apply mm_callf (f := 33)); (intro _; go_simp; try exact rfl); (with_reducible exact fun _ u => H2.out _); (try simp only [Act.put, List.setIfInBounds_toArray, List.set_cons_succ, List.set_cons_zero]))
      | ((with_reducible apply mo_callf (f := 33)); infer_instance; (intro _; go_simp; try exact rfl); (with_reducible exact fun u => H2.out _); (try simp only [Act.put, List.setIfInBounds_toArray, List.set_cons_succ, List.set_cons_zero]))
      | ((with_reducible apply mm_value); (intro _; go_simp; try exact rfl); (try simp only [Act.put, List.setIfInBounds_toArray, List.set_cons_succ, List.set_cons_zero]))
      | ((with_reducible apply mo_store); exact rfl; exact rfl; infer_instance; infer_instance; infer_instance; infer_instance; (try simp only [Act.put, List.setIfInBounds_toArray, List.set_cons_succ, List.set_cons_zero]))
      | ((with_reducible apply mo_put); exact rfl; exact rfl; infer_instance; infer_instance; infer_instance; infer_instance; (try simp only [Act.put, List.setIfInBounds_toArray, List.set_cons_succ, List.set_cons_zero]))
      | ((with_reducible apply mo_alloc); infer_instance; infer_instance; intro _; (try simp only [Act.put, List.setIfInBounds_toArray, List.set_cons_succ, List.set_cons_zero]))
      | ((with_reducible apply mo_three); (decide); (decide); infer_instance; infer_instance; infer_instance; intro _ _ _; (try simp only [Act.put, List.setIfInBounds_toArray, List.set_cons_succ, List.set_cons_zero]))
      | ((with_reducible apply mo_four); (decide); (decide); infer_instance; infer_instance; infer_instance; infer_instance; intro _ _ _ _; (try simp only [Act.put, List.setIfInBounds_toArray, List.set_cons_succ, List.set_cons_zero]))
      | ((with_reducible apply mo_two); infer_instance; infer_instance; (decide); intro _ _; (try simp only [Act.put, List.setIfInBounds_toArray, List.set_cons_succ, List.set_cons_zero]))
      | ((with_reducible apply mo_load); infer_instance; exact rfl; infer_instance; infer_instance; (try simp only [Act.put, List.setIfInBounds_toArray, List.set_cons_succ, List.set_cons_zero]))
      | ((with_reducible apply mo_cell); infer_instance; exact rfl; infer_instance; infer_instance; (try simp only [Act.put, List.setIfInBounds_toArray, List.set_cons_succ, List.set_cons_zero]))
      | ((with_reducible apply mo_value); infer_instance; (intro _; go_simp; try exact rfl); (try simp only [Act.put, List.setIfInBounds_toArray, List.set_cons_succ, List.set_cons_zero])))
    refine mm_nil fun u7 => ?_
    go_wp2_with (fail)
    exact bd_cell Try.results17 rfl inferInstance inferInstance ⟨rfl, KW.below _⟩
set_option maxRecDepth 100000 in
set_option maxHeartbeats 6400000 in
theorem meet_any (x y z u s t p q : Int) (w : World) : Calls Try.prog 6 #[sgv x y z u, sgv s t p q] w (Ret (meetM x y z u s t p q).v w) := by
  have HT := fun w => touch_any x y z u s t p q w
  rw [touch_eq] at HT
  unfold meetM
  cases e1 : touchV x y z u s t p q with
  | false =>
    rw [e1] at HT
    replace HT := Lib.hid HT
    rw [if_neg (by decide)]
    unfold zeroM MT.v
    clear e1
    refine enter fun u => ?_
    go_enter Try.func6, Try.ntmps6
    go_wp2_with (first
      | ((with_reducible refine ls_skip ?_ ?_); (exact rfl); (try simp only [Act.put, List.setIfInBounds_toArray, List.set_cons_succ, List.set_cons_zero]))
      | ((with_reducible refine ck_box ?_); refine list_box rfl fun _ _ => ?_)
      | ((with_reducible refine ck_alloc ?_); refine ls_alloc inferInstance fun _ _ => ?_)
      | ((with_reducible refine ck_load ?_); first | refine ls_load rfl inferInstance inferInstance ?_ | refine ls_cell rfl inferInstance inferInstance ?_)
      | ((with_reducible refine ck_store ?_); refine ls_store rfl rfl inferInstance inferInstance inferInstance fun _ => ?_)
      | ((with_reducible refine ck_build (t := 27) (xs := #[]) ?_); refine ls_Meet_ ?_)
      | (go_at_call 8; (with_reducible refine (HT.out _).mono ?_); rintro e w' ⟨rfl, hb'⟩; obtain ⟨_, rfl⟩ := KW.go _ hb'; clear hb'))
    exact bd_cell Try.results6 rfl inferInstance inferInstance ⟨rfl, KW.below _⟩
  | true =>
    rw [e1] at HT
    replace HT := Lib.hid HT
    rw [if_pos rfl]
    have HA := fun w => along_any x y z u s t p q w
    have HS := Lib.hid (fun w => straight_any x y z u s t p q (touchV_iff.1 e1).1 w)
    have HC := Lib.hid (fun w => crossing_any x y z u s t p q w)
    cases e2 : alongV x y z u s t p q with
    | true =>
      rw [if_pos rfl]
      rw [e2] at HA
      replace HA := Lib.hid HA
      generalize flatM x y z u s t p q = FM at *
      clear HC e1 e2
      unfold MT.v at *
      refine enter fun u => ?_
      go_enter Try.func6, Try.ntmps6
      go_wp2_with (first
        | ((with_reducible refine ls_skip ?_ ?_); (exact rfl); (try simp only [Act.put, List.setIfInBounds_toArray, List.set_cons_succ, List.set_cons_zero]))
        | ((with_reducible refine ck_box ?_); refine list_box rfl fun _ _ => ?_)
        | ((with_reducible refine ck_alloc ?_); refine ls_alloc inferInstance fun _ _ => ?_)
        | ((with_reducible refine ck_load ?_); first | refine ls_load rfl inferInstance inferInstance ?_ | refine ls_cell rfl inferInstance inferInstance ?_)
        | ((with_reducible refine ck_store ?_); refine ls_store rfl rfl inferInstance inferInstance inferInstance fun _ => ?_)
        | (go_at_call 8; (with_reducible refine (HT.out _).mono ?_); rintro e w' ⟨rfl, hb'⟩; obtain ⟨_, rfl⟩ := KW.go _ hb'; clear hb')
        | (go_at_call 16; (with_reducible refine (HA.out _).mono ?_); rintro e w' ⟨rfl, hb'⟩; obtain ⟨_, rfl⟩ := KW.go _ hb'; clear hb')
        | (go_at_call 17; (with_reducible refine (HS.out _).mono ?_); rintro e w' ⟨rfl, hb'⟩; obtain ⟨_, rfl⟩ := KW.go _ hb'; clear hb'))
      exact bd_cell Try.results6 rfl inferInstance inferInstance ⟨rfl, KW.below _⟩
    | false =>
      rw [if_neg (by decide)]
      rw [e2] at HA
      replace HA := Lib.hid HA
      unfold crossM MT.v
      generalize ab (crossV s t p q x y) = d1 at *
      generalize ab (crossV s t p q z u) = d2 at *
      generalize ab (crossV x y z u s t) = d3 at *
      generalize d1 + d2 = d4 at *
      clear HS e1 e2
      refine enter fun u => ?_
      go_enter Try.func6, Try.ntmps6
      go_wp2_with (first
        | ((with_reducible refine ls_skip ?_ ?_); (exact rfl); (try simp only [Act.put, List.setIfInBounds_toArray, List.set_cons_succ, List.set_cons_zero]))
        | ((with_reducible refine ck_box ?_); refine list_box rfl fun _ _ => ?_)
        | ((with_reducible refine ck_alloc ?_); refine ls_alloc inferInstance fun _ _ => ?_)
        | ((with_reducible refine ck_load ?_); first | refine ls_load rfl inferInstance inferInstance ?_ | refine ls_cell rfl inferInstance inferInstance ?_)
        | ((with_reducible refine ck_store ?_); refine ls_store rfl rfl inferInstance inferInstance inferInstance fun _ => ?_)
        | (go_at_call 8; (with_reducible refine (HT.out _).mono ?_); rintro e w' ⟨rfl, hb'⟩; obtain ⟨_, rfl⟩ := KW.go _ hb'; clear hb')
        | (go_at_call 16; (with_reducible refine (HA.out _).mono ?_); rintro e w' ⟨rfl, hb'⟩; obtain ⟨_, rfl⟩ := KW.go _ hb'; clear hb')
        | (go_at_call 18; (with_reducible refine (HC.out _).mono ?_); rintro e w' ⟨rfl, hb'⟩; obtain ⟨_, rfl⟩ := KW.go _ hb'; clear hb'))
      exact bd_cell Try.results6 rfl inferInstance inferInstance ⟨rfl, KW.below _⟩
end Go.Proofs.Ytoahcjjndjdljaa.MeW
