/-
  The document's layer 7: contracts over the translation.
-/
import Derived.Test.YtnbipfoipnaafaaPtFn3
namespace Go.Proofs.Ytnbipfoipnaafaa.PtW
open Go.RowKit
open KM PtM
set_option maxRecDepth 100000 in
set_option maxHeartbeats 3200000 in
theorem rmay_any (x y : Int) (w : World) : Calls Try.prog 6 #[ptv x y] w (Ret (.bool (mayP x y)) w) := by
  unfold mayP inB
  obtain ⟨p, e1⟩ : ∃ p, decide (-536870912 ≤ x) = p := ⟨_, rfl⟩
  obtain ⟨q, e2⟩ : ∃ q, decide (x ≤ 536870912) = q := ⟨_, rfl⟩
  obtain ⟨r, e3⟩ : ∃ r, decide (-536870912 ≤ y) = r := ⟨_, rfl⟩
  obtain ⟨s, e4⟩ : ∃ s, decide (y ≤ 536870912) = s := ⟨_, rfl⟩
  rw [e1, e2, e3, e4]
  cases p
  · refine enter fun u => ?_
    go_enter Try.func6, Try.ntmps6
    go_wp2_with (first
      | ((with_reducible refine ls_skip ?_ ?_); (exact rfl); (try simp only [Act.put, List.setIfInBounds_toArray, List.set_cons_succ, List.set_cons_zero]))
      | ((with_reducible refine ck_box ?_); refine list_box rfl fun _ _ => ?_)
      | ((with_reducible refine ck_load ?_); first | refine ls_load rfl inferInstance inferInstance ?_ | refine ls_cell rfl inferInstance inferInstance ?_)
      | ((with_reducible refine ck_gload ?_); first | refine lsg_load rfl rfl inferInstance inferInstance ?_ | refine lsg_cell rfl rfl inferInstance inferInstance ?_))
    go_ret
    exact ⟨rfl, KW.below _⟩
  cases q
  · refine enter fun u => ?_
    go_enter Try.func6, Try.ntmps6
    go_wp2_with (first
      | ((with_reducible refine ls_skip ?_ ?_); (exact rfl); (try simp only [Act.put, List.setIfInBounds_toArray, List.set_cons_succ, List.set_cons_zero]))
      | ((with_reducible refine ck_box ?_); refine list_box rfl fun _ _ => ?_)
      | ((with_reducible refine ck_load ?_); first | refine ls_load rfl inferInstance inferInstance ?_ | refine ls_cell rfl inferInstance inferInstance ?_)
      | ((with_reducible refine ck_gload ?_); first | refine lsg_load rfl rfl inferInstance inferInstance ?_ | refine lsg_cell rfl rfl inferInstance inferInstance ?_))
    go_ret
    exact ⟨rfl, KW.below _⟩
  cases r
  · refine enter fun u => ?_
    go_enter Try.func6, Try.ntmps6
    go_wp2_with (first
      | ((with_reducible refine ls_skip ?_ ?_); (exact rfl); (try simp only [Act.put, List.setIfInBounds_toArray, List.set_cons_succ, List.set_cons_zero]))
      | ((with_reducible refine ck_box ?_); refine list_box rfl fun _ _ => ?_)
      | ((with_reducible refine ck_load ?_); first | refine ls_load rfl inferInstance inferInstance ?_ | refine ls_cell rfl inferInstance inferInstance ?_)
      | ((with_reducible refine ck_gload ?_); first | refine lsg_load rfl rfl inferInstance inferInstance ?_ | refine lsg_cell rfl rfl inferInstance inferInstance ?_))
    go_ret
    exact ⟨rfl, KW.below _⟩
  · refine enter fun u => ?_
    go_enter Try.func6, Try.ntmps6
    go_wp2_with (first
      | ((with_reducible refine ls_skip ?_ ?_); (exact rfl); (try simp only [Act.put, List.setIfInBounds_toArray, List.set_cons_succ, List.set_cons_zero]))
      | ((with_reducible refine ck_box ?_); refine list_box rfl fun _ _ => ?_)
      | ((with_reducible refine ck_load ?_); first | refine ls_load rfl inferInstance inferInstance ?_ | refine ls_cell rfl inferInstance inferInstance ?_)
      | ((with_reducible refine ck_gload ?_); first | refine lsg_load rfl rfl inferInstance inferInstance ?_ | refine lsg_cell rfl rfl inferInstance inferInstance ?_))
    go_ret
    exact ⟨rfl, KW.below _⟩
set_option maxRecDepth 100000 in
set_option maxHeartbeats 3200000 in
theorem rline_any (x y z u : Int) (w : World) : Calls Try.prog 16 #[sgv x y z u] w (Ret (.bool (lineP x y z u)) w) := by
  have HA := fun w => rmay_any x y w
  have HB := fun w => rmay_any z u w
  have HE := fun w => eqlPt x y z u w
  unfold lineP
  rw [show eqP x y z u = (x == z && y == u) from rfl]
  generalize (x == z && y == u) = o at *
  generalize mayP x y = p at *
  generalize mayP z u = q at *
  replace HA := Lib.hid HA
  replace HB := Lib.hid HB
  cases p <;> cases q
  all_goals (
    refine enter fun u => ?_
    go_enter Try.func16, Try.ntmps16
    go_wp2_with (first
      | ((with_reducible refine ls_skip ?_ ?_); (exact rfl); (try simp only [Act.put, List.setIfInBounds_toArray, List.set_cons_succ, List.set_cons_zero]))
      | ((with_reducible refine ck_box ?_); refine list_box rfl fun _ _ => ?_)
      | ((with_reducible refine ck_load ?_); first | refine ls_load rfl inferInstance inferInstance ?_ | refine ls_cell rfl inferInstance inferInstance ?_)
      | ((with_reducible refine ck_gload ?_); first | refine lsg_load rfl rfl inferInstance inferInstance ?_ | refine lsg_cell rfl rfl inferInstance inferInstance ?_)
      | (go_at_call 6; (with_reducible refine (HA.out _).mono ?_); rintro e w' ⟨rfl, hb'⟩; obtain ⟨_, rfl⟩ := KW.go _ hb'; clear hb')
      | (go_at_call 6; (with_reducible refine (HB.out _).mono ?_); rintro e w' ⟨rfl, hb'⟩; obtain ⟨_, rfl⟩ := KW.go _ hb'; clear hb'))
    go_ret
    exact ⟨rfl, KW.below _⟩)
theorem not_all {p q r : Bool} (h : (p && q && r) = false) : p = false ∨ (p = true ∧ q = false) ∨ (p = true ∧ q = true ∧ r = false) := by
  cases p <;> cases q <;> cases r <;> simp at h ⊢
set_option maxRecDepth 100000 in
set_option maxHeartbeats 3200000 in
theorem rcross_any (x y z u s t : Int) (w : World) : Calls Try.prog 9 #[ptv x y, ptv z u, ptv s t] w (Ret (.int .i64 (crossV x y z u s t)) w) := by
  have HA := fun w => rmay_any x y w
  have HB := fun w => rmay_any z u w
  have HC := fun w => rmay_any s t w
  unfold crossV
  cases h : (mayP x y && mayP z u && mayP s t) with
  | false =>
    rw [if_neg (by decide)]
    generalize mayP x y = p at *
    generalize mayP z u = q at *
    generalize mayP s t = o at *
    replace HA := Lib.hid HA
    replace HB := Lib.hid HB
    replace HC := Lib.hid HC
    rcases not_all h with rfl | ⟨rfl, rfl⟩ | ⟨rfl, rfl, rfl⟩
    all_goals (
      clear h
      refine enter fun u => ?_
      go_enter Try.func9, Try.ntmps9
      go_wp2_with (first
        | ((with_reducible refine ls_skip ?_ ?_); (exact rfl); (try simp only [Act.put, List.setIfInBounds_toArray, List.set_cons_succ, List.set_cons_zero]))
        | ((with_reducible refine ck_box ?_); refine list_box rfl fun _ _ => ?_)
        | ((with_reducible refine ck_load ?_); first | refine ls_load rfl inferInstance inferInstance ?_ | refine ls_cell rfl inferInstance inferInstance ?_)
        | ((with_reducible refine ck_gload ?_); first | refine lsg_load rfl rfl inferInstance inferInstance ?_ | refine lsg_cell rfl rfl inferInstance inferInstance ?_)
        | (go_at_call 6; (with_reducible refine (HA.out _).mono ?_); rintro e w' ⟨rfl, hb'⟩; obtain ⟨_, rfl⟩ := KW.go _ hb'; clear hb')
        | (go_at_call 6; (with_reducible refine (HB.out _).mono ?_); rintro e w' ⟨rfl, hb'⟩; obtain ⟨_, rfl⟩ := KW.go _ hb'; clear hb')
        | (go_at_call 6; (with_reducible refine (HC.out _).mono ?_); rintro e w' ⟨rfl, hb'⟩; obtain ⟨_, rfl⟩ := KW.go _ hb'; clear hb'))
      go_ret
      exact ⟨rfl, KW.below _⟩)
  | true =>
    rw [if_pos rfl]
    obtain ⟨h1, h2, h3⟩ := and3 h
    rw [h1] at HA
    rw [h2] at HB
    rw [h3] at HC
    replace HA := Lib.hid HA
    replace HB := Lib.hid HB
    replace HC := Lib.hid HC
    obtain ⟨⟨a1, a2⟩, a3, a4⟩ := mayP_iff.1 h1
    obtain ⟨⟨b1, b2⟩, b3, b4⟩ := mayP_iff.1 h2
    obtain ⟨⟨d1, d2⟩, d3, d4⟩ := mayP_iff.1 h3
    have c1 := @mul_bd' x u a1 a2 b3 b4
    have c2 := @mul_bd' z y b1 b2 a3 a4
    have c3 := @mul_bd' z t b1 b2 d3 d4
    have c4 := @mul_bd' s u d1 d2 b3 b4
    have c5 := @mul_bd' s y d1 d2 a3 a4
    have c6 := @mul_bd' x t a1 a2 d3 d4
    rw [crs_sum]
    clear a1 a2 a3 a4 b1 b2 b3 b4 d1 d2 d3 d4 h1 h2 h3 h
    have w1 : IntKind.i64.wrap (x * u) = x * u := by rw [IntKind.wrap_i64]; omega
    have w2 : IntKind.i64.wrap (z * y) = z * y := by rw [IntKind.wrap_i64]; omega
    have w3 : IntKind.i64.wrap (z * t) = z * t := by rw [IntKind.wrap_i64]; omega
    have w4 : IntKind.i64.wrap (s * u) = s * u := by rw [IntKind.wrap_i64]; omega
    have w5 : IntKind.i64.wrap (s * y) = s * y := by rw [IntKind.wrap_i64]; omega
    have w6 : IntKind.i64.wrap (x * t) = x * t := by rw [IntKind.wrap_i64]; omega
    have v1 : IntKind.i64.wrap (x * u - z * y) = x * u - z * y := by rw [IntKind.wrap_i64]; omega
    have v2 : IntKind.i64.wrap (x * u - z * y + z * t) = x * u - z * y + z * t := by rw [IntKind.wrap_i64]; omega
    have v3 : IntKind.i64.wrap (x * u - z * y + z * t - s * u) = x * u - z * y + z * t - s * u := by rw [IntKind.wrap_i64]; omega
    have v4 : IntKind.i64.wrap (x * u - z * y + z * t - s * u + s * y) = x * u - z * y + z * t - s * u + s * y := by rw [IntKind.wrap_i64]; omega
    have v5 : IntKind.i64.wrap (x * u - z * y + z * t - s * u + s * y - x * t) = x * u - z * y + z * t - s * u + s * y - x * t := by rw [IntKind.wrap_i64]; omega
    clear c1 c2 c3 c4 c5 c6
    refine enter fun u => ?_
    go_enter Try.func9, Try.ntmps9
    go_wp2_with (first
      | ((with_reducible refine ls_skip ?_ ?_); (exact rfl); (try simp only [Act.put, List.setIfInBounds_toArray, List.set_cons_succ, List.set_cons_zero]))
      | ((with_reducible refine ck_box ?_); refine list_box rfl fun _ _ => ?_)
      | ((with_reducible refine ck_load ?_); first | refine ls_load rfl inferInstance inferInstance ?_ | refine ls_cell rfl inferInstance inferInstance ?_)
      | ((with_reducible refine ck_gload ?_); first | refine lsg_load rfl rfl inferInstance inferInstance ?_ | refine lsg_cell rfl rfl inferInstance inferInstance ?_)
      | (go_at_call 6; (with_reducible refine (HA.out _).mono ?_); rintro e w' ⟨rfl, hb'⟩; obtain ⟨_, rfl⟩ := KW.go _ hb'; clear hb')
      | (go_at_call 6; (with_reducible refine (HB.out _).mono ?_); rintro e w' ⟨rfl, hb'⟩; obtain ⟨_, rfl⟩ := KW.go _ hb'; clear hb')
      | (go_at_call 6; (with_reducible refine (HC.out _).mono ?_); rintro e w' ⟨rfl, hb'⟩; obtain ⟨_, rfl⟩ := KW.go _ hb'; clear hb'))
    go_ret
    exact ⟨rfl, KW.below _⟩
set_option maxRecDepth 100000 in
set_option maxHeartbeats 3200000 in
theorem rdot_any (x y z u s t : Int) (w : World) : Calls Try.prog 11 #[ptv x y, ptv z u, ptv s t] w (Ret (.int .i64 (dotV x y z u s t)) w) := by
  have HA := fun w => rmay_any x y w
  have HB := fun w => rmay_any z u w
  have HC := fun w => rmay_any s t w
  unfold dotV
  cases h : (mayP x y && mayP z u && mayP s t) with
  | false =>
    rw [if_neg (by decide)]
    generalize mayP x y = p at *
    generalize mayP z u = q at *
    generalize mayP s t = o at *
    replace HA := Lib.hid HA
    replace HB := Lib.hid HB
    replace HC := Lib.hid HC
    rcases not_all h with rfl | ⟨rfl, rfl⟩ | ⟨rfl, rfl, rfl⟩
    all_goals (
      clear h
      refine enter fun u => ?_
      go_enter Try.func11, Try.ntmps11
      go_wp2_with (first
        | ((with_reducible refine ls_skip ?_ ?_); (exact rfl); (try simp only [Act.put, List.setIfInBounds_toArray, List.set_cons_succ, List.set_cons_zero]))
        | ((with_reducible refine ck_box ?_); refine list_box rfl fun _ _ => ?_)
        | ((with_reducible refine ck_load ?_); first | refine ls_load rfl inferInstance inferInstance ?_ | refine ls_cell rfl inferInstance inferInstance ?_)
        | ((with_reducible refine ck_gload ?_); first | refine lsg_load rfl rfl inferInstance inferInstance ?_ | refine lsg_cell rfl rfl inferInstance inferInstance ?_)
        | (go_at_call 6; (with_reducible refine (HA.out _).mono ?_); rintro e w' ⟨rfl, hb'⟩; obtain ⟨_, rfl⟩ := KW.go _ hb'; clear hb')
        | (go_at_call 6; (with_reducible refine (HB.out _).mono ?_); rintro e w' ⟨rfl, hb'⟩; obtain ⟨_, rfl⟩ := KW.go _ hb'; clear hb')
        | (go_at_call 6; (with_reducible refine (HC.out _).mono ?_); rintro e w' ⟨rfl, hb'⟩; obtain ⟨_, rfl⟩ := KW.go _ hb'; clear hb'))
      go_ret
      exact ⟨rfl, KW.below _⟩)
  | true =>
    rw [if_pos rfl]
    obtain ⟨h1, h2, h3⟩ := and3 h
    rw [h1] at HA
    rw [h2] at HB
    rw [h3] at HC
    replace HA := Lib.hid HA
    replace HB := Lib.hid HB
    replace HC := Lib.hid HC
    obtain ⟨⟨a1, a2⟩, a3, a4⟩ := mayP_iff.1 h1
    obtain ⟨⟨b1, b2⟩, b3, b4⟩ := mayP_iff.1 h2
    obtain ⟨⟨d1, d2⟩, d3, d4⟩ := mayP_iff.1 h3
    have c1 := @mul_bd (z - x) (s - x) (by omega) (by omega) (by omega) (by omega)
    have c2 := @mul_bd (u - y) (t - y) (by omega) (by omega) (by omega) (by omega)
    unfold dts
    have w1 : IntKind.i64.wrap (z - x) = z - x := by rw [IntKind.wrap_i64]; omega
    have w2 : IntKind.i64.wrap (u - y) = u - y := by rw [IntKind.wrap_i64]; omega
    have w3 : IntKind.i64.wrap (s - x) = s - x := by rw [IntKind.wrap_i64]; omega
    have w4 : IntKind.i64.wrap (t - y) = t - y := by rw [IntKind.wrap_i64]; omega
    clear a1 a2 a3 a4 b1 b2 b3 b4 d1 d2 d3 d4 h1 h2 h3 h
    have w5 : IntKind.i64.wrap ((z - x) * (s - x)) = (z - x) * (s - x) := by rw [IntKind.wrap_i64]; omega
    have w6 : IntKind.i64.wrap ((u - y) * (t - y)) = (u - y) * (t - y) := by rw [IntKind.wrap_i64]; omega
    have w7 : IntKind.i64.wrap ((z - x) * (s - x) + (u - y) * (t - y)) = (z - x) * (s - x) + (u - y) * (t - y) := by rw [IntKind.wrap_i64]; omega
    clear c1 c2
    refine enter fun u => ?_
    go_enter Try.func11, Try.ntmps11
    go_wp2_with (first
      | ((with_reducible refine ls_skip ?_ ?_); (exact rfl); (try simp only [Act.put, List.setIfInBounds_toArray, List.set_cons_succ, List.set_cons_zero]))
      | ((with_reducible refine ck_box ?_); refine list_box rfl fun _ _ => ?_)
      | ((with_reducible refine ck_load ?_); first | refine ls_load rfl inferInstance inferInstance ?_ | refine ls_cell rfl inferInstance inferInstance ?_)
      | ((with_reducible refine ck_gload ?_); first | refine lsg_load rfl rfl inferInstance inferInstance ?_ | refine lsg_cell rfl rfl inferInstance inferInstance ?_)
      | (go_at_call 6; (with_reducible refine (HA.out _).mono ?_); rintro e w' ⟨rfl, hb'⟩; obtain ⟨_, rfl⟩ := KW.go _ hb'; clear hb')
      | (go_at_call 6; (with_reducible refine (HB.out _).mono ?_); rintro e w' ⟨rfl, hb'⟩; obtain ⟨_, rfl⟩ := KW.go _ hb'; clear hb')
      | (go_at_call 6; (with_reducible refine (HC.out _).mono ?_); rintro e w' ⟨rfl, hb'⟩; obtain ⟨_, rfl⟩ := KW.go _ hb'; clear hb'))
    go_ret
    exact ⟨rfl, KW.below _⟩
set_option maxRecDepth 100000 in
set_option maxHeartbeats 3200000 in
theorem rturned_no (x y k : Int) (h : mayP x y = false) (w : World) : Calls Try.prog 22 #[ptv x y, .int .i64 k] w (Ret (ptv 0 0) w) := by
  have HA := fun w => rmay_any x y w
  rw [h] at HA
  replace HA := Lib.hid HA
  refine enter fun u => ?_
  go_enter Try.func22, Try.ntmps22
  go_wp2_with (first
    | ((with_reducible refine ls_skip ?_ ?_); (exact rfl); (try simp only [Act.put, List.setIfInBounds_toArray, List.set_cons_succ, List.set_cons_zero]))
    | ((with_reducible refine ck_box ?_); refine list_box rfl fun _ _ => ?_)
    | ((with_reducible refine ck_alloc ?_); refine ls_alloc inferInstance fun _ _ => ?_)
    | ((with_reducible refine ck_load ?_); first | refine ls_load rfl inferInstance inferInstance ?_ | refine ls_cell rfl inferInstance inferInstance ?_)
    | ((with_reducible refine ck_store ?_); refine ls_store rfl rfl inferInstance inferInstance inferInstance fun _ => ?_)
    | ((with_reducible refine ck_build (t := 23) (xs := #[]) ?_); refine ls_Pt_ ?_)
    | (go_at_call 6; (with_reducible refine (HA.out _).mono ?_); rintro e w' ⟨rfl, hb'⟩; obtain ⟨_, rfl⟩ := KW.go _ hb'; clear hb'))
  exact bd_cell Try.results22 rfl inferInstance inferInstance ⟨rfl, KW.below _⟩
set_option maxRecDepth 100000 in
set_option maxHeartbeats 3200000 in
theorem rturned_yes (x y q : Int) (h : mayP x y = true) (w : World) : Calls Try.prog 22 #[ptv x y, .int .i64 q] w (Ret (ptv (tx (qk q) x y) (ty (qk q) x y)) w) := by
  have HA := fun w => rmay_any x y w
  rw [h] at HA
  replace HA := Lib.hid HA
  obtain ⟨⟨a1, a2⟩, a3, a4⟩ := mayP_iff.1 h
  have c1 : IntKind.i64.wrap (-x) = -x := by rw [IntKind.wrap_i64]; omega
  have c2 : IntKind.i64.wrap (-y) = -y := by rw [IntKind.wrap_i64]; omega
  have hq := qk_lt q
  obtain ⟨r, w1⟩ : ∃ r, q.tmod 4 = r := ⟨_, rfl⟩
  have w2 : IntKind.i64.wrap (r + 4) = r + 4 := by
    have h1 : -4 < Int.tmod q 4 := by have := Int.tmod_lt_of_pos (-q) (show (0 : Int) < 4 by omega); rw [Int.neg_tmod] at this; omega
    have h2 : Int.tmod q 4 < 4 := Int.tmod_lt_of_pos q (by omega)
    rw [IntKind.wrap_i64]; omega
  have w3 := qk_go q
  rw [w1] at w3
  generalize qk q = k at *
  clear h a1 a2 a3 a4
  match k, hq with
  | 0, _ =>
    replace w3 : (r + 4).tmod 4 = 0 := w3
    show Calls _ _ _ _ (Ret (ptv x y) w)
    refine enter fun u => ?_
    go_enter Try.func22, Try.ntmps22
    go_wp2_with (first
      | ((with_reducible refine ls_skip ?_ ?_); (exact rfl); (try simp only [Act.put, List.setIfInBounds_toArray, List.set_cons_succ, List.set_cons_zero]))
      | ((with_reducible refine ck_box ?_); refine list_box rfl fun _ _ => ?_)
      | ((with_reducible refine ck_alloc ?_); refine ls_alloc inferInstance fun _ _ => ?_)
      | ((with_reducible refine ck_load ?_); first | refine ls_load rfl inferInstance inferInstance ?_ | refine ls_cell rfl inferInstance inferInstance ?_)
      | ((with_reducible refine ck_store ?_); refine ls_store rfl rfl inferInstance inferInstance inferInstance fun _ => ?_)
      | ((with_reducible refine ck_build (t := 23) (xs := #[(0, _), (1, _)]) ?_); refine ls_Pt rfl rfl ?_)
      | (go_at_call 6; (with_reducible refine (HA.out _).mono ?_); rintro e w' ⟨rfl, hb'⟩; obtain ⟨_, rfl⟩ := KW.go _ hb'; clear hb'))
    exact bd_cell Try.results22 rfl inferInstance inferInstance ⟨rfl, KW.below _⟩
  | 1, _ =>
    replace w3 : (r + 4).tmod 4 = 1 := w3
    show Calls _ _ _ _ (Ret (ptv (-y) x) w)
    refine enter fun u => ?_
    go_enter Try.func22, Try.ntmps22
    go_wp2_with (first
      | ((with_reducible refine ls_skip ?_ ?_); (exact rfl); (try simp only [Act.put, List.setIfInBounds_toArray, List.set_cons_succ, List.set_cons_zero]))
      | ((with_reducible refine ck_box ?_); refine list_box rfl fun _ _ => ?_)
      | ((with_reducible refine ck_alloc ?_); refine ls_alloc inferInstance fun _ _ => ?_)
      | ((with_reducible refine ck_load ?_); first | refine ls_load rfl inferInstance inferInstance ?_ | refine ls_cell rfl inferInstance inferInstance ?_)
      | ((with_reducible refine ck_store ?_); refine ls_store rfl rfl inferInstance inferInstance inferInstance fun _ => ?_)
      | ((with_reducible refine ck_build (t := 23) (xs := #[(0, _), (1, _)]) ?_); refine ls_Pt rfl rfl ?_)
      | (go_at_call 6; (with_reducible refine (HA.out _).mono ?_); rintro e w' ⟨rfl, hb'⟩; obtain ⟨_, rfl⟩ := KW.go _ hb'; clear hb'))
    exact bd_cell Try.results22 rfl inferInstance inferInstance ⟨rfl, KW.below _⟩
  | 2, _ =>
    replace w3 : (r + 4).tmod 4 = 2 := w3
    show Calls _ _ _ _ (Ret (ptv (-x) (-y)) w)
    refine enter fun u => ?_
    go_enter Try.func22, Try.ntmps22
    go_wp2_with (first
      | ((with_reducible refine ls_skip ?_ ?_); (exact rfl); (try simp only [Act.put, List.setIfInBounds_toArray, List.set_cons_succ, List.set_cons_zero]))
      | ((with_reducible refine ck_box ?_); refine list_box rfl fun _ _ => ?_)
      | ((with_reducible refine ck_alloc ?_); refine ls_alloc inferInstance fun _ _ => ?_)
      | ((with_reducible refine ck_load ?_); first | refine ls_load rfl inferInstance inferInstance ?_ | refine ls_cell rfl inferInstance inferInstance ?_)
      | ((with_reducible refine ck_store ?_); refine ls_store rfl rfl inferInstance inferInstance inferInstance fun _ => ?_)
      | ((with_reducible refine ck_build (t := 23) (xs := #[(0, _), (1, _)]) ?_); refine ls_Pt rfl rfl ?_)
      | (go_at_call 6; (with_reducible refine (HA.out _).mono ?_); rintro e w' ⟨rfl, hb'⟩; obtain ⟨_, rfl⟩ := KW.go _ hb'; clear hb'))
    exact bd_cell Try.results22 rfl inferInstance inferInstance ⟨rfl, KW.below _⟩
  | 3, _ =>
    replace w3 : (r + 4).tmod 4 = 3 := w3
    show Calls _ _ _ _ (Ret (ptv y (-x)) w)
    refine enter fun u => ?_
    go_enter Try.func22, Try.ntmps22
    go_wp2_with (first
      | ((with_reducible refine ls_skip ?_ ?_); (exact rfl); (try simp only [Act.put, List.setIfInBounds_toArray, List.set_cons_succ, List.set_cons_zero]))
      | ((with_reducible refine ck_box ?_); refine list_box rfl fun _ _ => ?_)
      | ((with_reducible refine ck_alloc ?_); refine ls_alloc inferInstance fun _ _ => ?_)
      | ((with_reducible refine ck_load ?_); first | refine ls_load rfl inferInstance inferInstance ?_ | refine ls_cell rfl inferInstance inferInstance ?_)
      | ((with_reducible refine ck_store ?_); refine ls_store rfl rfl inferInstance inferInstance inferInstance fun _ => ?_)
      | ((with_reducible refine ck_build (t := 23) (xs := #[(0, _), (1, _)]) ?_); refine ls_Pt rfl rfl ?_)
      | (go_at_call 6; (with_reducible refine (HA.out _).mono ?_); rintro e w' ⟨rfl, hb'⟩; obtain ⟨_, rfl⟩ := KW.go _ hb'; clear hb'))
    exact bd_cell Try.results22 rfl inferInstance inferInstance ⟨rfl, KW.below _⟩
set_option maxRecDepth 100000 in
set_option maxHeartbeats 3200000 in
theorem rless_any (x y : Int) (w : World) : Calls Try.prog 26 #[.int .i64 x, .int .i64 y] w (Ret (.int .i64 (min x y)) w) := by
  by_cases h : x < y
  · rw [show min x y = x by omega]
    have e : decide (x < y) = true := decide_eq_true h
    clear h
    refine enter fun u => ?_
    go_enter Try.func26, Try.ntmps26
    go_wp2_with (fail)
    go_ret
    exact ⟨rfl, KW.below _⟩
  · rw [show min x y = y by omega]
    have e : decide (x < y) = false := decide_eq_false h
    clear h
    refine enter fun u => ?_
    go_enter Try.func26, Try.ntmps26
    go_wp2_with (fail)
    go_ret
    exact ⟨rfl, KW.below _⟩
set_option maxRecDepth 100000 in
set_option maxHeartbeats 3200000 in
theorem rlow_any (x y z u : Int) (w : World) : Calls Try.prog 19 #[sgv x y z u] w (Ret (ptv (min x z) (min y u)) w) := by
  have HA := Lib.hid (fun w => rless_any x z w)
  have HB := Lib.hid (fun w => rless_any y u w)
  generalize min x z = p at *
  generalize min y u = q at *
  refine enter fun u => ?_
  go_enter Try.func19, Try.ntmps19
  go_wp2_with (first
    | ((with_reducible refine ls_skip ?_ ?_); (exact rfl); (try simp only [Act.put, List.setIfInBounds_toArray, List.set_cons_succ, List.set_cons_zero]))
    | ((with_reducible refine ck_box ?_); refine list_box rfl fun _ _ => ?_)
    | ((with_reducible refine ck_alloc ?_); refine ls_alloc inferInstance fun _ _ => ?_))
  refine region_mixS [.take 0, .take 1, .take 2, .take 3, .take 4, .take 5, .take 6, .take 7, .take 8, .take 9, .take 10, .take 11, .take 12, .take 13, .take 14, .sole 15] _ (Sub.skip (h := Sub.both (h := Sub.nil))) (by kernel_rfl) (by kernel_rfl) ?_
  simp only [picksM, Mv.pick, List.filterMap_cons, List.filterMap_nil, List.getElem?_cons_zero, List.getElem?_cons_succ, Option.map_some]
  refine MM.out ?_
  repeat (first
    | ((with_reducible apply mm_load); exact rfl; infer_instance; infer_instance; (try simp only [Act.put, List.setIfInBounds_toArray, List.set_cons_succ, List.set_cons_zero]))
    | ((with_reducible apply mm_cell); exact rfl; infer_instance; infer_instance; (try simp only [Act.put, List.setIfInBounds_toArray, List.set_cons_succ, List.set_cons_zero]))
    | ((with_reducible apply mm_Pt); exact rfl; exact rfl; (try simp only [Act.put, List.setIfInBounds_toArray, List.set_cons_succ, List.set_cons_zero]))
    | ((with_reducible apply mm_callf (f := 26)); (intro _; go_simp; try exact rfl); (with_reducible exact fun _ u => HA.out _); (try simp only [Act.put, List.setIfInBounds_toArray, List.set_cons_succ, List.set_cons_zero]))
    | ((with_reducible apply mo_callf (f := 26)); infer_instance; (intro _; go_simp; try exact rfl); (with_reducible exact fun u => HA.out _); (try simp only [Act.put, List.setIfInBounds_toArray, List.set_cons_succ, List.set_cons_zero]))
    | ((with_reducible apply mm_callf (f := 26)); (intro _; go_simp; try exact rfl); (with_reducible exact fun _ u => HB.out _); (try simp only [Act.put, List.setIfInBounds_toArray, List.set_cons_succ, List.set_cons_zero]))
    | ((with_reducible apply mo_callf (f := 26)); infer_instance; (intro _; go_simp; try exact rfl); (with_reducible exact fun u => HB.out _); (try simp only [Act.put, List.setIfInBounds_toArray, List.set_cons_succ, List.set_cons_zero]))
    | ((with_reducible apply mm_value); (intro _; go_simp; try exact rfl); (try simp only [Act.put, List.setIfInBounds_toArray, List.set_cons_succ, List.set_cons_zero]))
    | ((with_reducible apply mo_store); exact rfl; exact rfl; infer_instance; infer_instance; infer_instance; infer_instance; (try simp only [Act.put, List.setIfInBounds_toArray, List.set_cons_succ, List.set_cons_zero]))
    | ((with_reducible apply mo_put); exact rfl; exact rfl; infer_instance; infer_instance; infer_instance; infer_instance; (try simp only [Act.put, List.setIfInBounds_toArray, List.set_cons_succ, List.set_cons_zero]))
    | ((with_reducible apply mo_alloc); infer_instance; infer_instance; intro _; (try simp only [Act.put, List.setIfInBounds_toArray, List.set_cons_succ, List.set_cons_zero]))
    | ((with_reducible apply mo_three); (decide); (decide); infer_instance; infer_instance; infer_instance; intro _ _ _; (try simp only [Act.put, List.setIfInBounds_toArray, List.set_cons_succ, List.set_cons_zero]))
    | ((with_reducible apply mo_four); (decide); (decide); infer_instance; infer_instance; infer_instance; infer_instance; intro _ _ _ _; (try simp only [Act.put, List.setIfInBounds_toArray, List.set_cons_succ, List.set_cons_zero]))
    | ((with_reducible apply mo_two); infer_instance; infer_instance; (decide); intro _ _; (try simp only [Act.put, List.setIfInBounds_toArray, List.set_cons_succ, List.set_cons_zero]))
    | ((with_reducible apply mo_load); infer_instance; exact rfl; infer_instance; infer_instance; (try simp only [Act.put, List.setIfInBounds_toArray, List.set_cons_succ, List.set_cons_zero]))
    | ((with_reducible apply mo_cell); infer_instance; exact rfl; infer_instance; infer_instance; (try simp only [Act.put, List.setIfInBounds_toArray, List.set_cons_succ, List.set_cons_zero]))
    | ((with_reducible apply mo_value); infer_instance; (intro _; go_simp; try exact rfl); (try simp only [Act.put, List.setIfInBounds_toArray, List.set_cons_succ, List.set_cons_zero])))
  refine mm_nil fun u7 => ?_
  go_wp2_with (fail)
  exact bd_cell Try.results19 rfl inferInstance inferInstance ⟨rfl, KW.below _⟩
set_option maxRecDepth 100000 in
set_option maxHeartbeats 3200000 in
theorem rhigh_any (x y z u : Int) (h : lineP x y z u = true) (w : World) : Calls Try.prog 20 #[sgv x y z u] w (Ret (ptv (max x z) (max y u)) w) := by
  have HA := fun w => rless_any (-x) (-z) w
  have HB := fun w => rless_any (-y) (-u) w
  rw [show max x z = -min (-x) (-z) by omega, show max y u = -min (-y) (-u) by omega]
  unfold lineP at h
  obtain ⟨h1, h2, _⟩ := and3 h
  obtain ⟨⟨a1, a2⟩, a3, a4⟩ := mayP_iff.1 h1
  obtain ⟨⟨b1, b2⟩, b3, b4⟩ := mayP_iff.1 h2
  have c1 : IntKind.i64.wrap (-x) = -x := by rw [IntKind.wrap_i64]; omega
  have c2 : IntKind.i64.wrap (-y) = -y := by rw [IntKind.wrap_i64]; omega
  have c3 : IntKind.i64.wrap (-z) = -z := by rw [IntKind.wrap_i64]; omega
  have c4 : IntKind.i64.wrap (-u) = -u := by rw [IntKind.wrap_i64]; omega
  have c5 : IntKind.i64.wrap (-min (-x) (-z)) = -min (-x) (-z) := by rw [IntKind.wrap_i64]; omega
  have c6 : IntKind.i64.wrap (-min (-y) (-u)) = -min (-y) (-u) := by rw [IntKind.wrap_i64]; omega
  generalize min (-x) (-z) = p at *
  generalize min (-y) (-u) = q at *
  clear h h1 h2 a1 a2 a3 a4 b1 b2 b3 b4
  replace HA := Lib.hid HA
  replace HB := Lib.hid HB
  refine enter fun u => ?_
  go_enter Try.func20, Try.ntmps20
  go_wp2_with (first
    | ((with_reducible refine ls_skip ?_ ?_); (exact rfl); (try simp only [Act.put, List.setIfInBounds_toArray, List.set_cons_succ, List.set_cons_zero]))
    | ((with_reducible refine ck_box ?_); refine list_box rfl fun _ _ => ?_)
    | ((with_reducible refine ck_alloc ?_); refine ls_alloc inferInstance fun _ _ => ?_))
  refine region_mixS [.take 0, .take 1, .take 2, .take 3, .take 4, .take 5, .take 6, .take 7, .take 8, .take 9, .take 10, .take 11, .take 12, .take 13, .take 14, .take 15, .take 16, .take 17, .take 18, .take 19, .take 20, .sole 21] _ (Sub.skip (h := Sub.both (h := Sub.nil))) (by kernel_rfl) (by kernel_rfl) ?_
  simp only [picksM, Mv.pick, List.filterMap_cons, List.filterMap_nil, List.getElem?_cons_zero, List.getElem?_cons_succ, Option.map_some]
  refine MM.out ?_
  repeat (first
    | ((with_reducible apply mm_load); exact rfl; infer_instance; infer_instance; (try simp only [Act.put, List.setIfInBounds_toArray, List.set_cons_succ, List.set_cons_zero]))
    | ((with_reducible apply mm_cell); exact rfl; infer_instance; infer_instance; (try simp only [Act.put, List.setIfInBounds_toArray, List.set_cons_succ, List.set_cons_zero]))
    | ((with_reducible apply mm_Pt); exact rfl; exact rfl; (try simp only [Act.put, List.setIfInBounds_toArray, List.set_cons_succ, List.set_cons_zero]))
    | ((with_reducible apply mm_callf (f := 26)); (intro _; go_simp; try exact rfl); (with_reducible exact fun _ u => HA.out _); (try simp only [Act.put, List.setIfInBounds_toArray, List.set_cons_succ, List.set_cons_zero]))
    | ((with_reducible apply mo_callf (f := 26)); infer_instance; (intro _; go_simp; try exact rfl); (with_reducible exact fun u => HA.out _); (try simp only [Act.put, List.setIfInBounds_toArray, List.set_cons_succ, List.set_cons_zero]))
    | ((with_reducible apply mm_callf (f := 26)); (intro _; go_simp; try exact rfl); (with_reducible exact fun _ u => HB.out _); (try simp only [Act.put, List.setIfInBounds_toArray, List.set_cons_succ, List.set_cons_zero]))
    | ((with_reducible apply mo_callf (f := 26)); infer_instance; (intro _; go_simp; try exact rfl); (with_reducible exact fun u => HB.out _); (try simp only [Act.put, List.setIfInBounds_toArray, List.set_cons_succ, List.set_cons_zero]))
    | ((with_reducible apply mm_value); (intro _; go_simp; try exact rfl); (try simp only [Act.put, List.setIfInBounds_toArray, List.set_cons_succ, List.set_cons_zero]))
    | ((with_reducible apply mo_store); exact rfl; exact rfl; infer_instance; infer_instance; infer_instance; infer_instance; (try simp only [Act.put, List.setIfInBounds_toArray, List.set_cons_succ, List.set_cons_zero]))
    | ((with_reducible apply mo_put); exact rfl; exact rfl; infer_instance; infer_instance; infer_instance; infer_instance; (try simp only [Act.put, List.setIfInBounds_toArray, List.set_cons_succ, List.set_cons_zero]))
    | ((with_reducible apply mo_alloc); infer_instance; infer_instance; intro _; (try simp only [Act.put, List.setIfInBounds_toArray, List.set_cons_succ, List.set_cons_zero]))
    | ((with_reducible apply mo_three); (decide); (decide); infer_instance; infer_instance; infer_instance; intro _ _ _; (try simp only [Act.put, List.setIfInBounds_toArray, List.set_cons_succ, List.set_cons_zero]))
    | ((with_reducible apply mo_four); (decide); (decide); infer_instance; infer_instance; infer_instance; infer_instance; intro _ _ _ _; (try simp only [Act.put, List.setIfInBounds_toArray, List.set_cons_succ, List.set_cons_zero]))
    | ((with_reducible apply mo_two); infer_instance; infer_instance; (decide); intro _ _; (try simp only [Act.put, List.setIfInBounds_toArray, List.set_cons_succ, List.set_cons_zero]))
    | ((with_reducible apply mo_load); infer_instance; exact rfl; infer_instance; infer_instance; (try simp only [Act.put, List.setIfInBounds_toArray, List.set_cons_succ, List.set_cons_zero]))
    | ((with_reducible apply mo_cell); infer_instance; exact rfl; infer_instance; infer_instance; (try simp only [Act.put, List.setIfInBounds_toArray, List.set_cons_succ, List.set_cons_zero]))
    | ((with_reducible apply mo_value); infer_instance; (intro _; go_simp; try exact rfl); (try simp only [Act.put, List.setIfInBounds_toArray, List.set_cons_succ, List.set_cons_zero])))
  refine mm_nil fun u7 => ?_
  go_wp2_with (fail)
  exact bd_cell Try.results20 rfl inferInstance inferInstance ⟨rfl, KW.below _⟩
end Go.Proofs.Ytnbipfoipnaafaa.PtW
