/-
  package meet: contracts over the translation.
-/
import Derived.Test.YtoahcjjndjdljaaMe
import Derived.Test.YtoahcjjndjdljaaMeMath
import Derived.Test.YtoahcjjndjdljaaSlc
import Derived.Test.YtoahcjjndjdljaaLow7
import Derived.Test.YtoahcjjndjdljaaLow2
namespace Go.Proofs.Ytoahcjjndjdljaa.MeW
open Go.RowKit
open KM PtM OrM PtW OrW MeM
theorem two_ret2 (z : Int) (h1 : -9223372036854775808 ≤ z) (h2 : z ≤ 9223372036854775807) (w : World) : Calls Try.prog 40 #[.int .i64 z] w (Ret (.tuple #[.bool (decide (z < 0)), .int .u64 (z.natAbs : Nat)]) w) :=
  (DigW.two_any z w h1 h2).mono fun e w' ⟨he, hw⟩ => ⟨he, by rw [← hw]; exact Below.refl _ _⟩
set_option maxRecDepth 100000 in
set_option maxHeartbeats 3200000 in
theorem size_any (n : Int) (h1 : -9223372036854775807 ≤ n) (h2 : n ≤ 9223372036854775807) (w : World) : Calls Try.prog 34 #[.int .i64 n] w (Ret (.int .i64 (ab n)) w) := by
  have H2 := Lib.hid (fun w => two_ret2 n (by omega) h2 w)
  have c1 : IntKind.i64.wrap (n.natAbs : Int) = ab n := by unfold ab; rw [IntKind.wrap_i64]; omega
  generalize ab n = m at *
  generalize decide (n < 0) = s at *
  generalize (n.natAbs : Int) = k at *
  clear h1 h2
  refine enter fun u => ?_
  go_enter Try.func34, Try.ntmps34
  go_wp2_with (first
    | ((with_reducible refine ls_skip ?_ ?_); (exact rfl); (try simp only [Act.put, List.setIfInBounds_toArray, List.set_cons_succ, List.set_cons_zero]))
    | (go_at_call 40; (with_reducible refine (H2.out _).mono ?_); rintro e w' ⟨rfl, hb'⟩; obtain ⟨_, rfl⟩ := KW.go _ hb'; clear hb'))
  go_ret
  exact ⟨rfl, KW.below _⟩
def endV (x y X Y : Int) : Int := if (X == x && Y == y) = true then 0 else 1
set_option maxRecDepth 100000 in
set_option maxHeartbeats 3200000 in
theorem end_any (x y z u X Y : Int) (w : World) : Calls Try.prog 33 #[sgv x y z u, ptv X Y] w (Ret (.int .i64 (endV x y X Y)) w) := by
  have H1 := fun w => eqlPt X Y x y w
  unfold endV
  generalize (X == x && Y == y) = b1 at *
  cases b1
  · rw [if_neg (by decide)]
    refine enter fun u => ?_
    go_enter Try.func33, Try.ntmps33
    go_wp2_with (first
      | ((with_reducible refine ls_skip ?_ ?_); (exact rfl); (try simp only [Act.put, List.setIfInBounds_toArray, List.set_cons_succ, List.set_cons_zero]))
      | ((with_reducible refine ck_box ?_); refine list_box rfl fun _ _ => ?_)
      | ((with_reducible refine ck_load ?_); first | refine ls_load rfl inferInstance inferInstance ?_ | refine ls_cell rfl inferInstance inferInstance ?_))
    go_ret
    exact ⟨rfl, KW.below _⟩
  · rw [if_pos rfl]
    refine enter fun u => ?_
    go_enter Try.func33, Try.ntmps33
    go_wp2_with (first
      | ((with_reducible refine ls_skip ?_ ?_); (exact rfl); (try simp only [Act.put, List.setIfInBounds_toArray, List.set_cons_succ, List.set_cons_zero]))
      | ((with_reducible refine ck_box ?_); refine list_box rfl fun _ _ => ?_)
      | ((with_reducible refine ck_load ?_); first | refine ls_load rfl inferInstance inferInstance ?_ | refine ls_cell rfl inferInstance inferInstance ?_))
    go_ret
    exact ⟨rfl, KW.below _⟩
set_option maxRecDepth 100000 in
set_option maxHeartbeats 3200000 in
theorem mturn_no (k n m e x y z u : Int) (h : k ≠ 2) (w : World) : Calls Try.prog 10 #[mtv k n m e x y z u] w (Ret (mtv k m n e x y z u) w) := by
  have e1 : (k == 2) = false := by rw [beq_eq_false_iff_ne]; exact h
  have e2 : (k != 2) = true := by rw [bne, e1]; rfl
  clear h e1
  refine enter fun u => ?_
  go_enter Try.func10, Try.ntmps10
  go_wp2_with (first
    | ((with_reducible refine ls_skip ?_ ?_); (exact rfl); (try simp only [Act.put, List.setIfInBounds_toArray, List.set_cons_succ, List.set_cons_zero]))
    | ((with_reducible refine ck_box ?_); refine list_box rfl fun _ _ => ?_)
    | ((with_reducible refine ck_alloc ?_); refine ls_alloc inferInstance fun _ _ => ?_)
    | ((with_reducible refine ck_load ?_); first | refine ls_load rfl inferInstance inferInstance ?_ | refine ls_cell rfl inferInstance inferInstance ?_)
    | ((with_reducible refine ck_store ?_); refine ls_store rfl rfl inferInstance inferInstance inferInstance fun _ => ?_)
    | ((with_reducible refine ck_store ?_); refine ls_put (v := .int _ _) rfl rfl inferInstance inferInstance inferInstance fun _ => ?_))
  exact bd_cell Try.results10 rfl inferInstance inferInstance ⟨rfl, KW.below _⟩
set_option maxRecDepth 100000 in
set_option maxHeartbeats 3200000 in
theorem mturn_yes (n m e x y z u : Int) (w : World) : Calls Try.prog 10 #[mtv 2 n m e x y z u] w (Ret (mtv 2 n m e x y z u) w) := by
  refine enter fun u => ?_
  go_enter Try.func10, Try.ntmps10
  go_wp2_with (first
    | ((with_reducible refine ls_skip ?_ ?_); (exact rfl); (try simp only [Act.put, List.setIfInBounds_toArray, List.set_cons_succ, List.set_cons_zero]))
    | ((with_reducible refine ck_box ?_); refine list_box rfl fun _ _ => ?_)
    | ((with_reducible refine ck_alloc ?_); refine ls_alloc inferInstance fun _ _ => ?_)
    | ((with_reducible refine ck_load ?_); first | refine ls_load rfl inferInstance inferInstance ?_ | refine ls_cell rfl inferInstance inferInstance ?_)
    | ((with_reducible refine ck_store ?_); refine ls_store rfl rfl inferInstance inferInstance inferInstance fun _ => ?_)
    | ((with_reducible refine ck_store ?_); refine ls_put (v := .int _ _) rfl rfl inferInstance inferInstance inferInstance fun _ => ?_))
  exact bd_cell Try.results10 rfl inferInstance inferInstance ⟨rfl, KW.below _⟩
theorem crossV_bd (x y z u s t : Int) : -2305843009213693952 ≤ crossV x y z u s t ∧ crossV x y z u s t ≤ 2305843009213693952 := by
  unfold crossV
  split
  · rename_i h
    rw [Bool.and_eq_true, Bool.and_eq_true, mayP_iff, mayP_iff, mayP_iff] at h
    obtain ⟨⟨⟨⟨a1, a2⟩, a3, a4⟩, ⟨a5, a6⟩, a7, a8⟩, ⟨a9, b1⟩, b2, b3⟩ := h
    exact crs_bd a1 a2 a3 a4 a5 a6 a7 a8 a9 b1 b2 b3
  · decide
set_option maxRecDepth 100000 in
set_option maxHeartbeats 3200000 in
theorem crossing_any (x y z u s t p q : Int) (w : World) : Calls Try.prog 18 #[sgv x y z u, sgv s t p q] w (Ret (mtv 1 (ab (crossV s t p q x y)) (ab (crossV x y z u s t)) (ab (crossV s t p q x y) + ab (crossV s t p q z u)) 0 0 0 0) w) := by
  have b1 := crossV_bd s t p q x y
  have b2 := crossV_bd s t p q z u
  have b3 := crossV_bd x y z u s t
  have C1 := Lib.hid (fun w => cross_any s t p q x y w)
  have C2 := Lib.hid (fun w => cross_any s t p q z u w)
  have C3 := Lib.hid (fun w => cross_any x y z u s t w)
  generalize crossV s t p q x y = c1 at *
  generalize crossV s t p q z u = c2 at *
  generalize crossV x y z u s t = c3 at *
  have S1 := Lib.hid (fun w => size_any c1 (by omega) (by omega) w)
  have S2 := Lib.hid (fun w => size_any c2 (by omega) (by omega) w)
  have S3 := Lib.hid (fun w => size_any c3 (by omega) (by omega) w)
  have w1 : IntKind.i64.wrap (ab c1 + ab c2) = ab c1 + ab c2 := by unfold ab; rw [IntKind.wrap_i64]; omega
  generalize ab c1 = d1 at *
  generalize ab c2 = d2 at *
  generalize ab c3 = d3 at *
  clear b1 b2 b3
  refine enter fun u => ?_
  go_enter Try.func18, Try.ntmps18
  go_wp2_with (first
    | ((with_reducible refine ls_skip ?_ ?_); (exact rfl); (try simp only [Act.put, List.setIfInBounds_toArray, List.set_cons_succ, List.set_cons_zero]))
    | ((with_reducible refine ck_box ?_); refine list_box rfl fun _ _ => ?_)
    | ((with_reducible refine ck_alloc ?_); refine ls_alloc inferInstance fun _ _ => ?_)
    | ((with_reducible refine ck_load ?_); first | refine ls_load rfl inferInstance inferInstance ?_ | refine ls_cell rfl inferInstance inferInstance ?_)
    | ((with_reducible refine ck_store ?_); refine ls_store rfl rfl inferInstance inferInstance inferInstance fun _ => ?_)
    | ((with_reducible refine ck_build (t := 27) (xs := #[(0, _), (1, _), (2, _), (3, _)]) ?_); refine ls_Meet_0123 rfl rfl rfl rfl ?_)
    | (go_at_call 35; (with_reducible refine (C1.out _).mono ?_); rintro e w' ⟨rfl, hb'⟩; obtain ⟨_, rfl⟩ := KW.go _ hb'; clear hb')
    | (go_at_call 35; (with_reducible refine (C2.out _).mono ?_); rintro e w' ⟨rfl, hb'⟩; obtain ⟨_, rfl⟩ := KW.go _ hb'; clear hb')
    | (go_at_call 35; (with_reducible refine (C3.out _).mono ?_); rintro e w' ⟨rfl, hb'⟩; obtain ⟨_, rfl⟩ := KW.go _ hb'; clear hb')
    | (go_at_call 34; (with_reducible refine (S1.out _).mono ?_); rintro e w' ⟨rfl, hb'⟩; obtain ⟨_, rfl⟩ := KW.go _ hb'; clear hb')
    | (go_at_call 34; (with_reducible refine (S2.out _).mono ?_); rintro e w' ⟨rfl, hb'⟩; obtain ⟨_, rfl⟩ := KW.go _ hb'; clear hb')
    | (go_at_call 34; (with_reducible refine (S3.out _).mono ?_); rintro e w' ⟨rfl, hb'⟩; obtain ⟨_, rfl⟩ := KW.go _ hb'; clear hb'))
  exact bd_cell Try.results18 rfl inferInstance inferInstance ⟨rfl, KW.below _⟩
end Go.Proofs.Ytoahcjjndjdljaa.MeW
