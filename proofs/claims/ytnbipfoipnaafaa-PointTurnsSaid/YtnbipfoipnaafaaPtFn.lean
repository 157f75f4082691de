/-
  package point: contracts over the translation.
-/
import Derived.Test.YtnbipfoipnaafaaPt
import Derived.Test.YtnbipfoipnaafaaPtMath
namespace Go.Proofs.Ytnbipfoipnaafaa.PtW
open Go.RowKit
open KM PtM
/-- is a number within the grid? -/
def inB (n : Int) : Bool := decide (-536870912 ≤ n) && decide (n ≤ 536870912)
def mayP (x y : Int) : Bool := inB x && inB y
def eqP (x y z u : Int) : Bool := x == z && y == u
def lineP (x y z u : Int) : Bool := mayP x y && mayP z u && !eqP x y z u
theorem inB_iff {n : Int} : inB n = true ↔ -536870912 ≤ n ∧ n ≤ 536870912 := by
  unfold inB; rw [Bool.and_eq_true, decide_eq_true_eq, decide_eq_true_eq]
theorem mayP_iff {x y : Int} : mayP x y = true ↔ (-536870912 ≤ x ∧ x ≤ 536870912) ∧ (-536870912 ≤ y ∧ y ≤ 536870912) := by
  unfold mayP; rw [Bool.and_eq_true, inB_iff, inB_iff]
set_option maxRecDepth 100000 in
set_option maxHeartbeats 3200000 in
theorem within_any (n : Int) (w : World) : Calls Try.prog 23 #[.int .i64 n] w (Ret (.bool (inB n)) w) := by
  unfold inB
  obtain ⟨p, e1⟩ : ∃ p, decide (-536870912 ≤ n) = p := ⟨_, rfl⟩
  obtain ⟨q, e2⟩ : ∃ q, decide (n ≤ 536870912) = q := ⟨_, rfl⟩
  rw [e1, e2]
  cases p
  all_goals (
    refine enter fun u => ?_
    go_enter Try.func23, Try.ntmps23
    go_wp2_with (first
      | ((with_reducible refine ls_skip ?_ ?_); (exact rfl); (try simp only [Act.put, List.setIfInBounds_toArray, List.set_cons_succ, List.set_cons_zero]))
      | ((with_reducible refine ck_box ?_); refine list_box rfl fun _ _ => ?_)
      | ((with_reducible refine ck_load ?_); first | refine ls_load rfl inferInstance inferInstance ?_ | refine ls_cell rfl inferInstance inferInstance ?_))
    go_ret
    exact ⟨rfl, KW.below _⟩)
set_option maxRecDepth 100000 in
set_option maxHeartbeats 3200000 in
theorem may_any (x y : Int) (w : World) : Calls Try.prog 7 #[ptv x y] w (Ret (.bool (mayP x y)) w) := by
  have HA := fun w => within_any x w
  have HB := fun w => within_any y w
  unfold mayP
  generalize inB x = p at *
  generalize inB y = q at *
  replace HA := Lib.hid HA
  replace HB := Lib.hid HB
  cases p
  all_goals (
    refine enter fun u => ?_
    go_enter Try.func7, Try.ntmps7
    go_wp2_with (first
      | ((with_reducible refine ls_skip ?_ ?_); (exact rfl); (try simp only [Act.put, List.setIfInBounds_toArray, List.set_cons_succ, List.set_cons_zero]))
      | ((with_reducible refine ck_box ?_); refine list_box rfl fun _ _ => ?_)
      | ((with_reducible refine ck_load ?_); first | refine ls_load rfl inferInstance inferInstance ?_ | refine ls_cell rfl inferInstance inferInstance ?_)
      | (go_at_call 23; (with_reducible refine (HA.out _).mono ?_); rintro e w' ⟨rfl, hb'⟩; obtain ⟨_, rfl⟩ := KW.go _ hb'; clear hb')
      | (go_at_call 23; (with_reducible refine (HB.out _).mono ?_); rintro e w' ⟨rfl, hb'⟩; obtain ⟨_, rfl⟩ := KW.go _ hb'; clear hb'))
    go_ret
    exact ⟨rfl, KW.below _⟩)
set_option maxRecDepth 100000 in
set_option maxHeartbeats 3200000 in
theorem line_any (x y z u : Int) (w : World) : Calls Try.prog 17 #[sgv x y z u] w (Ret (.bool (lineP x y z u)) w) := by
  have HA := fun w => may_any x y w
  have HB := fun w => may_any z u w
  have HE := fun w => eqlPt x y z u w
  unfold lineP
  rw [show eqP x y z u = (x == z && y == u) from rfl]
  generalize (x == z && y == u) = o at *
  generalize mayP x y = p at *
  generalize mayP z u = q at *
  replace HA := Lib.hid HA
  replace HB := Lib.hid HB
  cases p <;> cases q
  all_goals (
    refine enter fun u => ?_
    go_enter Try.func17, Try.ntmps17
    go_wp2_with (first
      | ((with_reducible refine ls_skip ?_ ?_); (exact rfl); (try simp only [Act.put, List.setIfInBounds_toArray, List.set_cons_succ, List.set_cons_zero]))
      | ((with_reducible refine ck_box ?_); refine list_box rfl fun _ _ => ?_)
      | ((with_reducible refine ck_load ?_); first | refine ls_load rfl inferInstance inferInstance ?_ | refine ls_cell rfl inferInstance inferInstance ?_)
      | ((with_reducible refine ck_gload ?_); first | refine lsg_load rfl rfl inferInstance inferInstance ?_ | refine lsg_cell rfl rfl inferInstance inferInstance ?_)
      | (go_at_call 7; (with_reducible refine (HA.out _).mono ?_); rintro e w' ⟨rfl, hb'⟩; obtain ⟨_, rfl⟩ := KW.go _ hb'; clear hb')
      | (go_at_call 7; (with_reducible refine (HB.out _).mono ?_); rintro e w' ⟨rfl, hb'⟩; obtain ⟨_, rfl⟩ := KW.go _ hb'; clear hb'))
    go_ret
    exact ⟨rfl, KW.below _⟩)
set_option maxRecDepth 100000 in
set_option maxHeartbeats 3200000 in
theorem all_any (x y z u s t : Int) (w : World) : Calls Try.prog 24 #[ptv x y, ptv z u, ptv s t] w (Ret (.bool (mayP x y && mayP z u && mayP s t)) w) := by
  have HA := fun w => may_any x y w
  have HB := fun w => may_any z u w
  have HC := fun w => may_any s t w
  generalize mayP x y = p at *
  generalize mayP z u = q at *
  generalize mayP s t = o at *
  replace HA := Lib.hid HA
  replace HB := Lib.hid HB
  replace HC := Lib.hid HC
  cases p <;> cases q
  all_goals (
    refine enter fun u => ?_
    go_enter Try.func24, Try.ntmps24
    go_wp2_with (first
      | ((with_reducible refine ls_skip ?_ ?_); (exact rfl); (try simp only [Act.put, List.setIfInBounds_toArray, List.set_cons_succ, List.set_cons_zero]))
      | ((with_reducible refine ck_box ?_); refine list_box rfl fun _ _ => ?_)
      | ((with_reducible refine ck_load ?_); first | refine ls_load rfl inferInstance inferInstance ?_ | refine ls_cell rfl inferInstance inferInstance ?_)
      | ((with_reducible refine ck_gload ?_); first | refine lsg_load rfl rfl inferInstance inferInstance ?_ | refine lsg_cell rfl rfl inferInstance inferInstance ?_)
      | (go_at_call 7; (with_reducible refine (HA.out _).mono ?_); rintro e w' ⟨rfl, hb'⟩; obtain ⟨_, rfl⟩ := KW.go _ hb'; clear hb')
      | (go_at_call 7; (with_reducible refine (HB.out _).mono ?_); rintro e w' ⟨rfl, hb'⟩; obtain ⟨_, rfl⟩ := KW.go _ hb'; clear hb')
      | (go_at_call 7; (with_reducible refine (HC.out _).mono ?_); rintro e w' ⟨rfl, hb'⟩; obtain ⟨_, rfl⟩ := KW.go _ hb'; clear hb'))
    go_ret
    exact ⟨rfl, KW.below _⟩)
end Go.Proofs.Ytnbipfoipnaafaa.PtW
