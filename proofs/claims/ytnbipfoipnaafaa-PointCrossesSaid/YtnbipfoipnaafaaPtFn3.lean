/-
  package point: boxes and turning: contracts over the translation.
-/
import Derived.Test.YtnbipfoipnaafaaPtFn2
import Derived.LoopTactic
namespace Go.Proofs.Ytnbipfoipnaafaa.PtW
open Go.RowKit
open KM PtM
set_option maxRecDepth 100000 in
set_option maxHeartbeats 3200000 in
theorem box_no (x y z u : Int) (h : lineP x y z u = false) (w : World) : Calls Try.prog 15 #[sgv x y z u] w (Ret (.tuple #[ptv 0 0, ptv 0 0]) w) := by
  have HL := fun w => line_any x y z u w
  rw [h] at HL
  replace HL := Lib.hid HL
  clear h
  refine enter fun u => ?_
  go_enter Try.func15, Try.ntmps15
  go_wp2_with (first
    | ((with_reducible refine ls_skip ?_ ?_); (exact rfl); (try simp only [Act.put, List.setIfInBounds_toArray, List.set_cons_succ, List.set_cons_zero]))
    | ((with_reducible refine ck_box ?_); refine list_box rfl fun _ _ => ?_)
    | ((with_reducible refine ck_alloc ?_); refine ls_alloc inferInstance fun _ _ => ?_)
    | ((with_reducible refine ck_load ?_); first | refine ls_load rfl inferInstance inferInstance ?_ | refine ls_cell rfl inferInstance inferInstance ?_)
    | ((with_reducible refine ck_store ?_); refine ls_store rfl rfl inferInstance inferInstance inferInstance fun _ => ?_)
    | ((with_reducible refine ck_build (t := 23) (xs := #[]) ?_); refine ls_Pt_ ?_)
    | (go_at_call 17; (with_reducible refine (HL.out _).mono ?_); rintro e w' ⟨rfl, hb'⟩; obtain ⟨_, rfl⟩ := KW.go _ hb'; clear hb'))
  exact bd_cell2 Try.results15 rfl rfl inferInstance inferInstance inferInstance inferInstance ⟨rfl, KW.below _⟩
set_option maxRecDepth 100000 in
set_option maxHeartbeats 3200000 in
theorem box_yes (x y z u : Int) (h : lineP x y z u = true) (w : World) : Calls Try.prog 15 #[sgv x y z u] w (Ret (.tuple #[ptv (min x z) (min y u), ptv (max x z) (max y u)]) w) := by
  have HL := fun w => line_any x y z u w
  rw [h] at HL
  replace HL := Lib.hid HL
  have n1 := min_go x z
  have n2 := min_go y u
  have n3 := max_go x z
  have n4 := max_go y u
  generalize min x z = a1 at *
  generalize min y u = a2 at *
  generalize max x z = a3 at *
  generalize max y u = a4 at *
  clear h
  refine enter fun u => ?_
  go_enter Try.func15, Try.ntmps15
  go_wp2_with (first
    | ((with_reducible refine ls_skip ?_ ?_); (exact rfl); (try simp only [Act.put, List.setIfInBounds_toArray, List.set_cons_succ, List.set_cons_zero]))
    | ((with_reducible refine ck_box ?_); refine list_box rfl fun _ _ => ?_)
    | ((with_reducible refine ck_alloc ?_); refine ls_alloc inferInstance fun _ _ => ?_)
    | ((with_reducible refine ck_load ?_); first | refine ls_load rfl inferInstance inferInstance ?_ | refine ls_cell rfl inferInstance inferInstance ?_)
    | ((with_reducible refine ck_store ?_); refine ls_store rfl rfl inferInstance inferInstance inferInstance fun _ => ?_)
    | ((with_reducible refine ck_build (t := 23) (xs := #[(0, _), (1, _)]) ?_); refine ls_Pt rfl rfl ?_)
    | (go_at_call 17; (with_reducible refine (HL.out _).mono ?_); rintro e w' ⟨rfl, hb'⟩; obtain ⟨_, rfl⟩ := KW.go _ hb'; clear hb'))
  refine region_fork (by kernel_rfl) ?_
  repeat' (first
    | refine aa_nil (by decide +kernel) fun u7 => ?_
    | (refine aa_one 2 (by decide +kernel) rfl ?_ <;> simp only [List.getElem_toArray, List.getElem_cons_zero, List.getElem_cons_succ])
    | (refine aa_one 1 (by decide +kernel) rfl ?_ <;> simp only [List.getElem_toArray, List.getElem_cons_zero, List.getElem_cons_succ])
    | (refine aa_one 0 (by decide +kernel) rfl ?_ <;> simp only [List.getElem_toArray, List.getElem_cons_zero])
    | (refine aa_one 3 (by decide +kernel) rfl ?_ <;> simp only [List.getElem_toArray, List.getElem_cons_zero, List.getElem_cons_succ])
    | (refine aa_two 0 1 (by decide +kernel) rfl rfl ?_ ?_ <;> simp only [List.getElem_toArray, List.getElem_cons_zero, List.getElem_cons_succ])
    | (refine aa_two 1 2 (by decide +kernel) rfl rfl ?_ ?_ <;> simp only [List.getElem_toArray, List.getElem_cons_zero, List.getElem_cons_succ])
    | ((with_reducible apply se_load); exact rfl; infer_instance; infer_instance; (unfold Nxt; try simp only [Act.put, List.setIfInBounds_toArray, List.set_cons_succ, List.set_cons_zero]))
    | ((with_reducible apply se_cell); exact rfl; infer_instance; infer_instance; (unfold Nxt; try simp only [Act.put, List.setIfInBounds_toArray, List.set_cons_succ, List.set_cons_zero]))
    | ((with_reducible apply se_store); exact rfl; exact rfl; infer_instance; infer_instance; infer_instance; (unfold Nxt; try simp only [Act.put]))
    | ((with_reducible apply se_put); exact rfl; exact rfl; infer_instance; infer_instance; infer_instance; (unfold Nxt; try simp only [Act.put]))
    | ((with_reducible apply se_value); (intro _; go_simp; try exact rfl); (unfold Nxt; try simp only [Act.put, List.setIfInBounds_toArray, List.set_cons_succ, List.set_cons_zero])))
  all_goals (
    go_wp2_with (fail)
    exact bd_cell2 Try.results15 rfl rfl inferInstance inferInstance inferInstance inferInstance ⟨rfl, KW.below _⟩)
def apartB (x y z u s t p q : Int) : Bool := decide (max x z < min s p) || decide (max s p < min x z) || decide (max y u < min t q) || decide (max t q < min y u)
def apartP (x y z u s t p q : Int) : Bool := lineP x y z u && lineP s t p q && apartB x y z u s t p q
set_option maxRecDepth 100000 in
set_option maxHeartbeats 3200000 in
theorem apart_any (x y z u s t p q : Int) (w : World) : Calls Try.prog 18 #[sgv x y z u, sgv s t p q] w (Ret (.bool (apartP x y z u s t p q)) w) := by
  have HA := fun w => line_any x y z u w
  have HB := fun w => line_any s t p q w
  unfold apartP
  cases h1 : lineP x y z u with
  | false =>
    rw [h1] at HA
    generalize lineP s t p q = o at *
    replace HA := Lib.hid HA
    refine enter fun u => ?_
    go_enter Try.func18, Try.ntmps18
    go_wp2_with (first
      | ((with_reducible refine ls_skip ?_ ?_); (exact rfl); (try simp only [Act.put, List.setIfInBounds_toArray, List.set_cons_succ, List.set_cons_zero]))
      | ((with_reducible refine ck_box ?_); refine list_box rfl fun _ _ => ?_)
      | ((with_reducible refine ck_load ?_); first | refine ls_load rfl inferInstance inferInstance ?_ | refine ls_cell rfl inferInstance inferInstance ?_)
      | ((with_reducible refine ck_gload ?_); first | refine lsg_load rfl rfl inferInstance inferInstance ?_ | refine lsg_cell rfl rfl inferInstance inferInstance ?_)
      | (go_at_call 17; (with_reducible refine (HA.out _).mono ?_); rintro e w' ⟨rfl, hb'⟩; obtain ⟨_, rfl⟩ := KW.go _ hb'; clear hb'))
    go_ret
    exact ⟨rfl, KW.below _⟩
  | true =>
    cases h2 : lineP s t p q with
    | false =>
      rw [h1] at HA
      rw [h2] at HB
      replace HA := Lib.hid HA
      replace HB := Lib.hid HB
      refine enter fun u => ?_
      go_enter Try.func18, Try.ntmps18
      go_wp2_with (first
        | ((with_reducible refine ls_skip ?_ ?_); (exact rfl); (try simp only [Act.put, List.setIfInBounds_toArray, List.set_cons_succ, List.set_cons_zero]))
        | ((with_reducible refine ck_box ?_); refine list_box rfl fun _ _ => ?_)
        | ((with_reducible refine ck_load ?_); first | refine ls_load rfl inferInstance inferInstance ?_ | refine ls_cell rfl inferInstance inferInstance ?_)
        | ((with_reducible refine ck_gload ?_); first | refine lsg_load rfl rfl inferInstance inferInstance ?_ | refine lsg_cell rfl rfl inferInstance inferInstance ?_)
        | (go_at_call 17; (with_reducible refine (HA.out _).mono ?_); rintro e w' ⟨rfl, hb'⟩; obtain ⟨_, rfl⟩ := KW.go _ hb'; clear hb')
        | (go_at_call 17; (with_reducible refine (HB.out _).mono ?_); rintro e w' ⟨rfl, hb'⟩; obtain ⟨_, rfl⟩ := KW.go _ hb'; clear hb'))
      go_ret
      exact ⟨rfl, KW.below _⟩
    | true =>
      have HC := Lib.hid (fun w => box_yes x y z u h1 w)
      have HD := Lib.hid (fun w => box_yes s t p q h2 w)
      rw [h1] at HA
      rw [h2] at HB
      replace HA := Lib.hid HA
      replace HB := Lib.hid HB
      unfold apartB
      generalize min x z = a1 at *
      generalize min y u = a2 at *
      generalize max x z = a3 at *
      generalize max y u = a4 at *
      generalize min s p = b1 at *
      generalize min t q = b2 at *
      generalize max s p = b3 at *
      generalize max t q = b4 at *
      obtain ⟨c1, e1⟩ : ∃ c, decide (a3 < b1) = c := ⟨_, rfl⟩
      obtain ⟨c2, e2⟩ : ∃ c, decide (b3 < a1) = c := ⟨_, rfl⟩
      obtain ⟨c3, e3⟩ : ∃ c, decide (a4 < b2) = c := ⟨_, rfl⟩
      obtain ⟨c4, e4⟩ : ∃ c, decide (b4 < a2) = c := ⟨_, rfl⟩
      rw [e1, e2, e3, e4]
      clear h1 h2
      cases c1
      · cases c2
        · cases c3
          all_goals (
            refine enter fun u => ?_
            go_enter Try.func18, Try.ntmps18
            go_wp2_with (first
              | ((with_reducible refine ls_skip ?_ ?_); (exact rfl); (try simp only [Act.put, List.setIfInBounds_toArray, List.set_cons_succ, List.set_cons_zero]))
              | ((with_reducible refine ck_box ?_); refine list_box rfl fun _ _ => ?_)
              | ((with_reducible refine ck_alloc ?_); refine ls_alloc inferInstance fun _ _ => ?_)
              | ((with_reducible refine ck_load ?_); first | refine ls_load rfl inferInstance inferInstance ?_ | refine ls_cell rfl inferInstance inferInstance ?_)
              | ((with_reducible refine ck_gload ?_); first | refine lsg_load rfl rfl inferInstance inferInstance ?_ | refine lsg_cell rfl rfl inferInstance inferInstance ?_)
              | ((with_reducible refine ck_store ?_); refine ls_store rfl rfl inferInstance inferInstance inferInstance fun _ => ?_)
              | (go_at_call 17; (with_reducible refine (HA.out _).mono ?_); rintro e w' ⟨rfl, hb'⟩; obtain ⟨_, rfl⟩ := KW.go _ hb'; clear hb')
              | (go_at_call 17; (with_reducible refine (HB.out _).mono ?_); rintro e w' ⟨rfl, hb'⟩; obtain ⟨_, rfl⟩ := KW.go _ hb'; clear hb')
              | (go_at_call 15; (with_reducible refine (HC.out _).mono ?_); rintro e w' ⟨rfl, hb'⟩; obtain ⟨_, rfl⟩ := KW.go _ hb'; clear hb')
              | (go_at_call 15; (with_reducible refine (HD.out _).mono ?_); rintro e w' ⟨rfl, hb'⟩; obtain ⟨_, rfl⟩ := KW.go _ hb'; clear hb'))
            go_ret
            exact ⟨rfl, KW.below _⟩)
        · refine enter fun u => ?_
          go_enter Try.func18, Try.ntmps18
          go_wp2_with (first
            | ((with_reducible refine ls_skip ?_ ?_); (exact rfl); (try simp only [Act.put, List.setIfInBounds_toArray, List.set_cons_succ, List.set_cons_zero]))
            | ((with_reducible refine ck_box ?_); refine list_box rfl fun _ _ => ?_)
            | ((with_reducible refine ck_alloc ?_); refine ls_alloc inferInstance fun _ _ => ?_)
            | ((with_reducible refine ck_load ?_); first | refine ls_load rfl inferInstance inferInstance ?_ | refine ls_cell rfl inferInstance inferInstance ?_)
            | ((with_reducible refine ck_gload ?_); first | refine lsg_load rfl rfl inferInstance inferInstance ?_ | refine lsg_cell rfl rfl inferInstance inferInstance ?_)
            | ((with_reducible refine ck_store ?_); refine ls_store rfl rfl inferInstance inferInstance inferInstance fun _ => ?_)
            | (go_at_call 17; (with_reducible refine (HA.out _).mono ?_); rintro e w' ⟨rfl, hb'⟩; obtain ⟨_, rfl⟩ := KW.go _ hb'; clear hb')
            | (go_at_call 17; (with_reducible refine (HB.out _).mono ?_); rintro e w' ⟨rfl, hb'⟩; obtain ⟨_, rfl⟩ := KW.go _ hb'; clear hb')
            | (go_at_call 15; (with_reducible refine (HC.out _).mono ?_); rintro e w' ⟨rfl, hb'⟩; obtain ⟨_, rfl⟩ := KW.go _ hb'; clear hb')
            | (go_at_call 15; (with_reducible refine (HD.out _).mono ?_); rintro e w' ⟨rfl, hb'⟩; obtain ⟨_, rfl⟩ := KW.go _ hb'; clear hb'))
          go_ret
          exact ⟨rfl, KW.below _⟩
      · refine enter fun u => ?_
        go_enter Try.func18, Try.ntmps18
        go_wp2_with (first
          | ((with_reducible refine ls_skip ?_ ?_); (exact rfl); (try simp only [Act.put, List.setIfInBounds_toArray, List.set_cons_succ, List.set_cons_zero]))
          | ((with_reducible refine ck_box ?_); refine list_box rfl fun _ _ => ?_)
          | ((with_reducible refine ck_alloc ?_); refine ls_alloc inferInstance fun _ _ => ?_)
          | ((with_reducible refine ck_load ?_); first | refine ls_load rfl inferInstance inferInstance ?_ | refine ls_cell rfl inferInstance inferInstance ?_)
          | ((with_reducible refine ck_gload ?_); first | refine lsg_load rfl rfl inferInstance inferInstance ?_ | refine lsg_cell rfl rfl inferInstance inferInstance ?_)
          | ((with_reducible refine ck_store ?_); refine ls_store rfl rfl inferInstance inferInstance inferInstance fun _ => ?_)
          | (go_at_call 17; (with_reducible refine (HA.out _).mono ?_); rintro e w' ⟨rfl, hb'⟩; obtain ⟨_, rfl⟩ := KW.go _ hb'; clear hb')
          | (go_at_call 17; (with_reducible refine (HB.out _).mono ?_); rintro e w' ⟨rfl, hb'⟩; obtain ⟨_, rfl⟩ := KW.go _ hb'; clear hb')
          | (go_at_call 15; (with_reducible refine (HC.out _).mono ?_); rintro e w' ⟨rfl, hb'⟩; obtain ⟨_, rfl⟩ := KW.go _ hb'; clear hb')
          | (go_at_call 15; (with_reducible refine (HD.out _).mono ?_); rintro e w' ⟨rfl, hb'⟩; obtain ⟨_, rfl⟩ := KW.go _ hb'; clear hb'))
        go_ret
        exact ⟨rfl, KW.below _⟩
theorem turned_no (x y k : Int) (h : mayP x y = false) (w : World) : Calls Try.prog 21 #[ptv x y, .int .i64 k] w (Ret (ptv 0 0) w) := by
  have HA := fun w => may_any x y w
  rw [h] at HA
  replace HA := Lib.hid HA
  refine enter fun u => ?_
  go_enter Try.func21, Try.ntmps21
  go_wp2_with (first
    | ((with_reducible refine ls_skip ?_ ?_); (exact rfl); (try simp only [Act.put, List.setIfInBounds_toArray, List.set_cons_succ, List.set_cons_zero]))
    | ((with_reducible refine ck_box ?_); refine list_box rfl fun _ _ => ?_)
    | ((with_reducible refine ck_alloc ?_); refine ls_alloc inferInstance fun _ _ => ?_)
    | ((with_reducible refine ck_load ?_); first | refine ls_load rfl inferInstance inferInstance ?_ | refine ls_cell rfl inferInstance inferInstance ?_)
    | ((with_reducible refine ck_store ?_); refine ls_store rfl rfl inferInstance inferInstance inferInstance fun _ => ?_)
    | ((with_reducible refine ck_build (t := 23) (xs := #[]) ?_); refine ls_Pt_ ?_)
    | (go_at_call 7; (with_reducible refine (HA.out _).mono ?_); rintro e w' ⟨rfl, hb'⟩; obtain ⟨_, rfl⟩ := KW.go _ hb'; clear hb'))
  exact bd_cell Try.results21 rfl inferInstance inferInstance ⟨rfl, KW.below _⟩
def TnRel (k : Nat) (x y : Int) (w : World) (g2 g4 : Nat) (i : Value) (wr : World) : Prop :=
  ∃ (m : Nat) (u : KW w [⟨g4, ptc 0 0, 23⟩, ⟨g2, ptc (tx m x y) (ty m x y), 23⟩]), i = .int .i64 m ∧ wr = u.w ∧ Hid (m ≤ k)
set_option maxRecDepth 100000 in
set_option maxHeartbeats 3200000 in
theorem turned_yes (x y q : Int) (h : mayP x y = true) (w : World) : Calls Try.prog 21 #[ptv x y, .int .i64 q] w (Ret (ptv (tx (qk q) x y) (ty (qk q) x y)) w) := by
  have HA := fun w => may_any x y w
  rw [h] at HA
  replace HA := Lib.hid HA
  have hb := Lib.hid (mayP_iff.1 h)
  have hq := Lib.hid (qk_lt q)
  obtain ⟨r, w1⟩ : ∃ r, q.tmod 4 = r := ⟨_, rfl⟩
  have w2 : IntKind.i64.wrap (r + 4) = r + 4 := by
    have h1 : -4 < Int.tmod q 4 := by have := Int.tmod_lt_of_pos (-q) (show (0 : Int) < 4 by omega); rw [Int.neg_tmod] at this; omega
    have h2 : Int.tmod q 4 < 4 := Int.tmod_lt_of_pos q (by omega)
    rw [IntKind.wrap_i64]; omega
  have w3 := qk_go q
  rw [w1] at w3
  generalize qk q = k at *
  clear h
  refine enter fun u => ?_
  go_enter Try.func21, Try.ntmps21
  go_wp2_with (first
    | ((with_reducible refine ls_skip ?_ ?_); (exact rfl); (try simp only [Act.put, List.setIfInBounds_toArray, List.set_cons_succ, List.set_cons_zero]))
    | ((with_reducible refine ck_box ?_); refine list_box rfl fun g2 u2 => ?_)
    | ((with_reducible refine ck_alloc ?_); refine ls_alloc inferInstance fun g4 u4 => ?_)
    | ((with_reducible refine ck_load ?_); first | refine ls_load rfl inferInstance inferInstance ?_ | refine ls_cell rfl inferInstance inferInstance ?_)
    | ((with_reducible refine ck_store ?_); refine ls_store rfl rfl inferInstance inferInstance inferInstance fun _ => ?_)
    | (go_at_call 7; (with_reducible refine (HA.out _).mono ?_); rintro e w' ⟨rfl, hb'⟩; obtain ⟨_, rfl⟩ := KW.go _ hb'; clear hb'))
  go_loopw [13] (TnRel k x y w g2 g4) (fun i _ => k - (intOf i).toNat)
  case atStart => exact ⟨0, _, rfl, rfl, Lib.hid (Nat.zero_le _)⟩
  case round =>
    obtain ⟨m, u, rfl, rfl, hm⟩ := hrel
    by_cases hc : m < k
    · have b1 : decide ((m : Int) < k) = true := decide_eq_true (by omega)
      have c1 : IntKind.i64.wrap (-(ty m x y)) = -(ty m x y) := by
        obtain ⟨⟨h1, h2⟩, h3, h4⟩ := hb.out
        have := (@ty_bd m x y h1 h2 h3 h4).2
        rw [IntKind.wrap_i64]; omega
      have c2 : IntKind.i64.wrap ((m : Int) + 1) = ((m + 1 : Nat) : Int) := by have := hq.out; rw [IntKind.wrap_i64]; omega
      have t1 := Lib.hid (tx_next (show m < 3 by have := hq.out; omega) x y)
      have t2 := Lib.hid (ty_next (show m < 3 by have := hq.out; omega) x y)
      have HN : Hid (m + 1 ≤ k) := Lib.hid hc
      have HM : Hid (k - (m + 1) < k - m) := Lib.hid (by omega)
      clear hc
      generalize tx m x y = X at *
      generalize ty m x y = Y at *
      go_wp2_with (first
        | ((with_reducible refine ls_skip ?_ ?_); (exact rfl); (try simp only [Act.put, List.setIfInBounds_toArray, List.set_cons_succ, List.set_cons_zero]))
        | ((with_reducible refine ck_load ?_); first | refine ls_load rfl inferInstance inferInstance ?_ | refine ls_cell rfl inferInstance inferInstance ?_)
        | ((with_reducible refine ck_store ?_); refine ls_store rfl rfl inferInstance inferInstance inferInstance fun _ => ?_)
        | ((with_reducible refine ck_build (t := 23) (xs := #[(0, _), (1, _)]) ?_); refine ls_Pt rfl rfl ?_))
      go_roundw
      case rel => exact ⟨m + 1, by rw [t1.out, t2.out]; exact ⟨_, by go_num, rfl, HN⟩⟩
      case measure => simpa [intOf] using HM.out
    · obtain rfl : m = k := by have := hm.out; omega
      have b1 : decide ((m : Int) < m) = false := decide_eq_false (by omega)
      clear hc
      generalize tx m x y = X at *
      generalize ty m x y = Y at *
      go_wp2_with (first
        | ((with_reducible refine ls_skip ?_ ?_); (exact rfl); (try simp only [Act.put, List.setIfInBounds_toArray, List.set_cons_succ, List.set_cons_zero]))
        | ((with_reducible refine ck_load ?_); first | refine ls_load rfl inferInstance inferInstance ?_ | refine ls_cell rfl inferInstance inferInstance ?_)
        | ((with_reducible refine ck_store ?_); refine ls_store rfl rfl inferInstance inferInstance inferInstance fun _ => ?_))
      exact bd_cell Try.results21 rfl inferInstance inferInstance ⟨rfl, KW.below _⟩
end Go.Proofs.Ytnbipfoipnaafaa.PtW
