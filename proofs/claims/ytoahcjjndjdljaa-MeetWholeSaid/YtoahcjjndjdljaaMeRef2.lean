/-
  The document's layer 9: lines along one straight line.
-/
import Derived.Test.YtoahcjjndjdljaaMeRef
namespace Go.Proofs.Ytoahcjjndjdljaa.MeW
open Go.RowKit
open KM PtM OrM PtW OrW MeM
set_option maxRecDepth 100000 in
set_option maxHeartbeats 6400000 in
theorem rmeet_flat (x y z u s t p q : Int) (h : touchV x y z u s t p q = true) (h0 : dd x y z u s t p q = 0) (w : World) : Calls Try.prog 7 #[sgv x y z u, sgv s t p q] w
    (Ret (refS z u p q (pk x z s p (gB x y z u s t p q 4).2.1) (pk y u t q (gB x y z u s t p q 4).2.1) (pk x z s p (gB x y z u s t p q 4).2.2) (pk y u t q (gB x y z u s t p q 4).2.2)).v w) := by
  obtain ⟨FX, hFX⟩ : ∃ v, v = pk x z s p (gB x y z u s t p q 4).2.1 := ⟨_, rfl⟩
  obtain ⟨FY, hFY⟩ : ∃ v, v = pk y u t q (gB x y z u s t p q 4).2.1 := ⟨_, rfl⟩
  obtain ⟨LX, hLX⟩ : ∃ v, v = pk x z s p (gB x y z u s t p q 4).2.2 := ⟨_, rfl⟩
  obtain ⟨LY, hLY⟩ : ∃ v, v = pk y u t q (gB x y z u s t p q 4).2.2 := ⟨_, rfl⟩
  rw [← hFX, ← hFY, ← hLX, ← hLY]
  replace hFX := Lib.hid hFX
  replace hFY := Lib.hid hFY
  replace hLX := Lib.hid hLX
  replace hLY := Lib.hid hLY
  have HT := fun w => rtouch_any x y z u s t p q w
  rw [h] at HT
  replace HT := Lib.hid HT
  obtain ⟨a1, b1, _⟩ := line_iff.1 (touchV_iff.1 h).1
  obtain ⟨a2, b2, _⟩ := line_iff.1 (touchV_iff.1 h).2.1
  obtain ⟨a1x, a1y⟩ := mayP_iff.1 a1
  obtain ⟨b1x, b1y⟩ := mayP_iff.1 b1
  obtain ⟨a2x, a2y⟩ := mayP_iff.1 a2
  obtain ⟨b2x, b2y⟩ := mayP_iff.1 b2
  obtain ⟨k1, w1⟩ := sub_bd b1x a1x
  obtain ⟨k2, w2⟩ := sub_bd b1y a1y
  obtain ⟨k3, w3⟩ := sub_bd b2x a2x
  obtain ⟨k4, w4⟩ := sub_bd b2y a2y
  obtain ⟨k5, w5⟩ := mul_wr k1 k4
  obtain ⟨k6, w6⟩ := mul_wr k2 k3
  obtain ⟨w7, w8⟩ := dif_wr k5 k6
  unfold dd at h0
  clear a1 b1 a2 b2 a1x a1y b1x b1y a2x a2y b2x b2y h w8
  replace w1 : ∃ d, IntKind.i64.wrap (z - x) = d ∧ z - x = d := ⟨_, w1, rfl⟩
  obtain ⟨d1, w1, v1⟩ := w1
  rw [v1] at w5 w7 h0 k1 k5
  clear v1
  replace w2 : ∃ d, IntKind.i64.wrap (u - y) = d ∧ u - y = d := ⟨_, w2, rfl⟩
  obtain ⟨d2, w2, v1⟩ := w2
  rw [v1] at w6 w7 h0 k2 k6
  clear v1
  replace w3 : ∃ d, IntKind.i64.wrap (p - s) = d ∧ p - s = d := ⟨_, w3, rfl⟩
  obtain ⟨d3, w3, v1⟩ := w3
  rw [v1] at w6 w7 h0 k3 k6
  clear v1
  replace w4 : ∃ d, IntKind.i64.wrap (q - t) = d ∧ q - t = d := ⟨_, w4, rfl⟩
  obtain ⟨d4, w4, v1⟩ := w4
  rw [v1] at w5 w7 h0 k4 k5
  clear v1
  clear k1 k2 k3 k4 k5 k6
  replace w5 : ∃ d, IntKind.i64.wrap (d1 * d4) = d ∧ d1 * d4 = d := ⟨_, w5, rfl⟩
  obtain ⟨r1, w5, v1⟩ := w5
  rw [v1] at w7 h0
  clear v1
  replace w6 : ∃ d, IntKind.i64.wrap (d2 * d3) = d ∧ d2 * d3 = d := ⟨_, w6, rfl⟩
  obtain ⟨r2, w6, v1⟩ := w6
  rw [v1] at w7 h0
  clear v1
  replace w7 : IntKind.i64.wrap (r1 - r2) = 0 := by rw [w7, h0]
  clear h0
  refine enter fun v => ?_
  go_enter Try.func7, Try.ntmps7
  go_wp2_with (first
    | ((with_reducible refine ls_skip ?_ ?_); (exact rfl); (try simp only [Act.put, List.setIfInBounds_toArray, List.set_cons_succ, List.set_cons_zero]))
    | ((with_reducible refine ck_box ?_); refine list_box rfl fun _ _ => ?_)
    | ((with_reducible refine ck_alloc ?_); refine ls_alloc inferInstance fun _ _ => ?_)
    | ((with_reducible refine ck_load ?_); first | refine ls_load rfl inferInstance inferInstance ?_ | refine ls_cell rfl inferInstance inferInstance ?_)
    | ((with_reducible refine ck_store ?_); refine ls_store rfl rfl inferInstance inferInstance inferInstance fun _ => ?_)
    | (go_at_call 19; (with_reducible refine (HT.out _).mono ?_); rintro e w' ⟨rfl, hb'⟩; obtain ⟨_, rfl⟩ := KW.go _ hb'; clear hb'))
  rename_i g2 v2 g3 v3 g4 v4 _ _ _
  refine region (by kernel_rfl) (by kernel_rfl) fun _ => ?_
  refine QQ.out ?_
  repeat (first
    | ((with_reducible apply qq_skip); (exact rfl); (try simp only [Act.put, List.setIfInBounds_toArray, List.set_cons_succ, List.set_cons_zero]))
    | ((with_reducible apply qq_load); exact rfl; infer_instance; infer_instance; exact rfl; (try simp only [Act.put, List.setIfInBounds_toArray, List.set_cons_succ, List.set_cons_zero]))
    | ((with_reducible apply qq_cell); exact rfl; infer_instance; infer_instance; exact rfl; (try simp only [Act.put, List.setIfInBounds_toArray, List.set_cons_succ, List.set_cons_zero]))
    | ((with_reducible apply qq_value); (intro _; go_simp; try exact rfl); exact rfl; (try simp only [Act.put, List.setIfInBounds_toArray, List.set_cons_succ, List.set_cons_zero])))
  refine qq_nil ?_
  rintro _ ⟨u7, rfl⟩
  go_wp2_with (first
    | ((with_reducible refine ls_skip ?_ ?_); (exact rfl); (try simp only [Act.put, List.setIfInBounds_toArray, List.set_cons_succ, List.set_cons_zero]))
    | ((with_reducible refine ck_alloc ?_); refine ls_alloc inferInstance fun _ _ => ?_)
    | ((with_reducible refine ck_load ?_); first | refine ls_load rfl inferInstance inferInstance ?_ | refine ls_cell rfl inferInstance inferInstance ?_)
    | ((with_reducible refine ck_store ?_); refine ls_store rfl rfl inferInstance inferInstance inferInstance fun _ => ?_)
    | ((with_reducible refine ck_build (t := 23) (xs := #[]) ?_); refine ls_Pt_ ?_)
    | ((with_reducible refine ck_slice ?_); refine ls_slice4 rfl rfl rfl rfl inferInstance fun g113 v113 => ?_))
  rename_i g14 _ g15 _ _ _ _ _
  clear w1 w2 w3 w4 w5 w6 w7 HT
  go_loopw [16, 115] (RfRel x y z u s t p q w g2 g3 g4 g14 g15 g113) (fun _ i _ => 4 - (intOf i).toNat)
  case atStart => exact ⟨0, false, 4, 4, _, ⟨rfl, rfl⟩, rfl, Lib.hid ⟨by decide, rfl⟩⟩
  case round =>
    obtain ⟨m, b, f, l, v, ⟨rfl, rfl⟩, rfl, hm⟩ := hrel
    by_cases hc : m < 4
    · have b0 : decide ((m : Int) < 4) = true := decide_eq_true (by omega)
      have c0 : IntKind.i64.wrap ((m : Int) + 1) = ((m + 1 : Nat) : Int) := by rw [IntKind.wrap_i64]; omega
      have HM : Hid (4 - (m + 1) < 4 - m) := Lib.hid (by omega)
      have HP := part_p4 x y z u s t p q m hc
      have HA := fun w => ron_any x y z u (pk x z s p m) (pk y u t q m) w
      have HB := fun w => ron_any s t p q (pk x z s p m) (pk y u t q m) w
      have hcB : cB x y z u s t p q m = (onV x y z u (pk x z s p m) (pk y u t q m) && onV s t p q (pk x z s p m) (pk y u t q m)) := rfl
      cases e1 : onV x y z u (pk x z s p m) (pk y u t q m) with
      | false =>
        rw [e1, Bool.false_and] at hcB
        have HN : Hid (m + 1 ≤ 4 ∧ gB x y z u s t p q (m + 1) = (b, f, l)) := Lib.hid ⟨hc, by rw [ref_no hcB]; exact hm.out.2⟩
        rw [e1] at HA
        replace HA := Lib.hid HA
        clear HB hcB e1
        generalize pk x z s p m = X at *
        generalize pk y u t q m = Y at *
        go_wp2_with (first
          | ((with_reducible refine ls_skip ?_ ?_); (exact rfl); (try simp only [Act.put, List.setIfInBounds_toArray, List.set_cons_succ, List.set_cons_zero]))
          | ((with_reducible refine ck_alloc ?_); refine ls_alloc inferInstance fun _ _ => ?_)
          | ((with_reducible refine ck_load ?_); first | refine ls_load rfl inferInstance inferInstance ?_ | refine ls_cell rfl inferInstance inferInstance ?_)
          | ((with_reducible refine ck_gload ?_); first | refine lsg_load rfl rfl inferInstance inferInstance ?_ | refine lsg_cell rfl rfl inferInstance inferInstance ?_)
          | ((with_reducible refine ck_store ?_); refine ls_store rfl rfl inferInstance inferInstance inferInstance fun _ => ?_)
          | (go_at_call 20; (with_reducible refine (HA.out _).mono ?_); rintro e w' ⟨rfl, hb'⟩; obtain ⟨_, rfl⟩ := KW.go _ hb'; clear hb'))
        go_roundw
        case rel => exact ⟨m + 1, b, f, l, ex_weak inferInstance ⟨rfl, by go_num⟩ HN⟩
        case measure => simpa [intOf] using HM.out
      | true =>
        rw [e1, Bool.true_and] at hcB
        rw [e1] at HA
        replace HA := Lib.hid HA
        cases e2 : onV s t p q (pk x z s p m) (pk y u t q m) with
        | false =>
          rw [e2] at hcB
          have HN : Hid (m + 1 ≤ 4 ∧ gB x y z u s t p q (m + 1) = (b, f, l)) := Lib.hid ⟨hc, by rw [ref_no hcB]; exact hm.out.2⟩
          rw [e2] at HB
          replace HB := Lib.hid HB
          clear hcB e1 e2
          generalize pk x z s p m = X at *
          generalize pk y u t q m = Y at *
          go_wp2_with (first
            | ((with_reducible refine ls_skip ?_ ?_); (exact rfl); (try simp only [Act.put, List.setIfInBounds_toArray, List.set_cons_succ, List.set_cons_zero]))
            | ((with_reducible refine ck_alloc ?_); refine ls_alloc inferInstance fun _ _ => ?_)
            | ((with_reducible refine ck_load ?_); first | refine ls_load rfl inferInstance inferInstance ?_ | refine ls_cell rfl inferInstance inferInstance ?_)
            | ((with_reducible refine ck_gload ?_); first | refine lsg_load rfl rfl inferInstance inferInstance ?_ | refine lsg_cell rfl rfl inferInstance inferInstance ?_)
            | ((with_reducible refine ck_store ?_); refine ls_store rfl rfl inferInstance inferInstance inferInstance fun _ => ?_)
            | (go_at_call 20; (with_reducible refine (HA.out _).mono ?_); rintro e w' ⟨rfl, hb'⟩; obtain ⟨_, rfl⟩ := KW.go _ hb'; clear hb')
            | (go_at_call 20; (with_reducible refine (HB.out _).mono ?_); rintro e w' ⟨rfl, hb'⟩; obtain ⟨_, rfl⟩ := KW.go _ hb'; clear hb'))
          go_roundw
          case rel => exact ⟨m + 1, b, f, l, ex_weak inferInstance ⟨rfl, by go_num⟩ HN⟩
          case measure => simpa [intOf] using HM.out
        | true =>
          rw [e2] at hcB
          have E1 := ref_yes hcB
          rw [hm.out.2] at E1
          dsimp only at E1
          rw [e2] at HB
          replace HB := Lib.hid HB
          have HO := fun w => rdot_any x y z u (pk x z s p m) (pk y u t q m) w
          have HF := fun w => rdot_any x y z u (pk x z s p f) (pk y u t q f) w
          have HL := fun w => rdot_any x y z u (pk x z s p l) (pk y u t q l) w
          generalize dotV x y z u (pk x z s p m) (pk y u t q m) = o1 at *
          generalize dotV x y z u (pk x z s p f) (pk y u t q f) = o2 at *
          generalize dotV x y z u (pk x z s p l) (pk y u t q l) = o3 at *
          obtain ⟨d1, k1⟩ : ∃ d, decide (o1 < o2) = d := ⟨_, rfl⟩
          obtain ⟨d2, k2⟩ : ∃ d, decide (o3 < o1) = d := ⟨_, rfl⟩
          rw [k1, k2] at E1
          replace HO := Lib.hid HO
          replace HF := Lib.hid HF
          replace HL := Lib.hid HL
          clear hcB e1 e2
          cases b
          case false =>
            have HN : Hid (m + 1 ≤ 4 ∧ gB x y z u s t p q (m + 1) = (true, m, m)) := Lib.hid ⟨hc, by rw [E1]; rfl⟩
            clear E1 k1 k2
            generalize hX : pk x z s p m = X at *
            generalize hY : pk y u t q m = Y at *
            replace hX := Lib.hid hX
            replace hY := Lib.hid hY
            go_wp2_with (first
              | ((with_reducible refine ls_skip ?_ ?_); (exact rfl); (try simp only [Act.put, List.setIfInBounds_toArray, List.set_cons_succ, List.set_cons_zero]))
              | ((with_reducible refine ck_alloc ?_); refine ls_alloc inferInstance fun _ _ => ?_)
              | ((with_reducible refine ck_load ?_); first | refine ls_load rfl inferInstance inferInstance ?_ | refine ls_cell rfl inferInstance inferInstance ?_)
              | ((with_reducible refine ck_gload ?_); first | refine lsg_load rfl rfl inferInstance inferInstance ?_ | refine lsg_cell rfl rfl inferInstance inferInstance ?_)
              | ((with_reducible refine ck_store ?_); refine ls_store rfl rfl inferInstance inferInstance inferInstance fun _ => ?_)
              | (go_at_call 20; (with_reducible refine (HA.out _).mono ?_); rintro e w' ⟨rfl, hb'⟩; obtain ⟨_, rfl⟩ := KW.go _ hb'; clear hb')
              | (go_at_call 20; (with_reducible refine (HB.out _).mono ?_); rintro e w' ⟨rfl, hb'⟩; obtain ⟨_, rfl⟩ := KW.go _ hb'; clear hb')
              | (go_at_call 21; (with_reducible refine (HO.out _).mono ?_); rintro e w' ⟨rfl, hb'⟩; obtain ⟨_, rfl⟩ := KW.go _ hb'; clear hb'))
            go_roundw
            case rel => exact ⟨m + 1, true, m, m, by rw [hX.out, hY.out]; exact ex_weak inferInstance ⟨rfl, by go_num⟩ HN⟩
            case measure => simpa [intOf] using HM.out
          cases d1 <;> cases d2
          · have HN : Hid (m + 1 ≤ 4 ∧ gB x y z u s t p q (m + 1) = (true, f, l)) := Lib.hid ⟨hc, by rw [E1]; rfl⟩
            clear E1
            generalize hX : pk x z s p m = X at *
            generalize hY : pk y u t q m = Y at *
            replace hX := Lib.hid hX
            replace hY := Lib.hid hY
            go_wp2_with (first
              | ((with_reducible refine ls_skip ?_ ?_); (exact rfl); (try simp only [Act.put, List.setIfInBounds_toArray, List.set_cons_succ, List.set_cons_zero]))
              | ((with_reducible refine ck_alloc ?_); refine ls_alloc inferInstance fun _ _ => ?_)
              | ((with_reducible refine ck_load ?_); first | refine ls_load rfl inferInstance inferInstance ?_ | refine ls_cell rfl inferInstance inferInstance ?_)
              | ((with_reducible refine ck_gload ?_); first | refine lsg_load rfl rfl inferInstance inferInstance ?_ | refine lsg_cell rfl rfl inferInstance inferInstance ?_)
              | ((with_reducible refine ck_store ?_); refine ls_store rfl rfl inferInstance inferInstance inferInstance fun _ => ?_)
              | (go_at_call 20; (with_reducible refine (HA.out _).mono ?_); rintro e w' ⟨rfl, hb'⟩; obtain ⟨_, rfl⟩ := KW.go _ hb'; clear hb')
              | (go_at_call 20; (with_reducible refine (HB.out _).mono ?_); rintro e w' ⟨rfl, hb'⟩; obtain ⟨_, rfl⟩ := KW.go _ hb'; clear hb')
              | (go_at_call 21; (with_reducible refine (HO.out _).mono ?_); rintro e w' ⟨rfl, hb'⟩; obtain ⟨_, rfl⟩ := KW.go _ hb'; clear hb')
              | (go_at_call 21; (with_reducible refine (HF.out _).mono ?_); rintro e w' ⟨rfl, hb'⟩; obtain ⟨_, rfl⟩ := KW.go _ hb'; clear hb')
              | (go_at_call 21; (with_reducible refine (HL.out _).mono ?_); rintro e w' ⟨rfl, hb'⟩; obtain ⟨_, rfl⟩ := KW.go _ hb'; clear hb'))
            go_roundw
            case rel => exact ⟨m + 1, true, f, l, by (try rw [hX.out, hY.out]); exact ex_weak inferInstance ⟨rfl, by go_num⟩ HN⟩
            case measure => simpa [intOf] using HM.out
          · have HN : Hid (m + 1 ≤ 4 ∧ gB x y z u s t p q (m + 1) = (true, f, m)) := Lib.hid ⟨hc, by rw [E1]; rfl⟩
            clear E1
            generalize hX : pk x z s p m = X at *
            generalize hY : pk y u t q m = Y at *
            replace hX := Lib.hid hX
            replace hY := Lib.hid hY
            go_wp2_with (first
              | ((with_reducible refine ls_skip ?_ ?_); (exact rfl); (try simp only [Act.put, List.setIfInBounds_toArray, List.set_cons_succ, List.set_cons_zero]))
              | ((with_reducible refine ck_alloc ?_); refine ls_alloc inferInstance fun _ _ => ?_)
              | ((with_reducible refine ck_load ?_); first | refine ls_load rfl inferInstance inferInstance ?_ | refine ls_cell rfl inferInstance inferInstance ?_)
              | ((with_reducible refine ck_gload ?_); first | refine lsg_load rfl rfl inferInstance inferInstance ?_ | refine lsg_cell rfl rfl inferInstance inferInstance ?_)
              | ((with_reducible refine ck_store ?_); refine ls_store rfl rfl inferInstance inferInstance inferInstance fun _ => ?_)
              | (go_at_call 20; (with_reducible refine (HA.out _).mono ?_); rintro e w' ⟨rfl, hb'⟩; obtain ⟨_, rfl⟩ := KW.go _ hb'; clear hb')
              | (go_at_call 20; (with_reducible refine (HB.out _).mono ?_); rintro e w' ⟨rfl, hb'⟩; obtain ⟨_, rfl⟩ := KW.go _ hb'; clear hb')
              | (go_at_call 21; (with_reducible refine (HO.out _).mono ?_); rintro e w' ⟨rfl, hb'⟩; obtain ⟨_, rfl⟩ := KW.go _ hb'; clear hb')
              | (go_at_call 21; (with_reducible refine (HF.out _).mono ?_); rintro e w' ⟨rfl, hb'⟩; obtain ⟨_, rfl⟩ := KW.go _ hb'; clear hb')
              | (go_at_call 21; (with_reducible refine (HL.out _).mono ?_); rintro e w' ⟨rfl, hb'⟩; obtain ⟨_, rfl⟩ := KW.go _ hb'; clear hb'))
            go_roundw
            case rel => exact ⟨m + 1, true, f, m, by (try rw [hX.out, hY.out]); exact ex_weak inferInstance ⟨rfl, by go_num⟩ HN⟩
            case measure => simpa [intOf] using HM.out
          · have HN : Hid (m + 1 ≤ 4 ∧ gB x y z u s t p q (m + 1) = (true, m, l)) := Lib.hid ⟨hc, by rw [E1]; rfl⟩
            clear E1
            generalize hX : pk x z s p m = X at *
            generalize hY : pk y u t q m = Y at *
            replace hX := Lib.hid hX
            replace hY := Lib.hid hY
            go_wp2_with (first
              | ((with_reducible refine ls_skip ?_ ?_); (exact rfl); (try simp only [Act.put, List.setIfInBounds_toArray, List.set_cons_succ, List.set_cons_zero]))
              | ((with_reducible refine ck_alloc ?_); refine ls_alloc inferInstance fun _ _ => ?_)
              | ((with_reducible refine ck_load ?_); first | refine ls_load rfl inferInstance inferInstance ?_ | refine ls_cell rfl inferInstance inferInstance ?_)
              | ((with_reducible refine ck_gload ?_); first | refine lsg_load rfl rfl inferInstance inferInstance ?_ | refine lsg_cell rfl rfl inferInstance inferInstance ?_)
              | ((with_reducible refine ck_store ?_); refine ls_store rfl rfl inferInstance inferInstance inferInstance fun _ => ?_)
              | (go_at_call 20; (with_reducible refine (HA.out _).mono ?_); rintro e w' ⟨rfl, hb'⟩; obtain ⟨_, rfl⟩ := KW.go _ hb'; clear hb')
              | (go_at_call 20; (with_reducible refine (HB.out _).mono ?_); rintro e w' ⟨rfl, hb'⟩; obtain ⟨_, rfl⟩ := KW.go _ hb'; clear hb')
              | (go_at_call 21; (with_reducible refine (HO.out _).mono ?_); rintro e w' ⟨rfl, hb'⟩; obtain ⟨_, rfl⟩ := KW.go _ hb'; clear hb')
              | (go_at_call 21; (with_reducible refine (HF.out _).mono ?_); rintro e w' ⟨rfl, hb'⟩; obtain ⟨_, rfl⟩ := KW.go _ hb'; clear hb')
              | (go_at_call 21; (with_reducible refine (HL.out _).mono ?_); rintro e w' ⟨rfl, hb'⟩; obtain ⟨_, rfl⟩ := KW.go _ hb'; clear hb'))
            go_roundw
            case rel => exact ⟨m + 1, true, m, l, by (try rw [hX.out, hY.out]); exact ex_weak inferInstance ⟨rfl, by go_num⟩ HN⟩
            case measure => simpa [intOf] using HM.out
          · have HN : Hid (m + 1 ≤ 4 ∧ gB x y z u s t p q (m + 1) = (true, m, m)) := Lib.hid ⟨hc, by rw [E1]; rfl⟩
            clear E1
            generalize hX : pk x z s p m = X at *
            generalize hY : pk y u t q m = Y at *
            replace hX := Lib.hid hX
            replace hY := Lib.hid hY
            go_wp2_with (first
              | ((with_reducible refine ls_skip ?_ ?_); (exact rfl); (try simp only [Act.put, List.setIfInBounds_toArray, List.set_cons_succ, List.set_cons_zero]))
              | ((with_reducible refine ck_alloc ?_); refine ls_alloc inferInstance fun _ _ => ?_)
              | ((with_reducible refine ck_load ?_); first | refine ls_load rfl inferInstance inferInstance ?_ | refine ls_cell rfl inferInstance inferInstance ?_)
              | ((with_reducible refine ck_gload ?_); first | refine lsg_load rfl rfl inferInstance inferInstance ?_ | refine lsg_cell rfl rfl inferInstance inferInstance ?_)
              | ((with_reducible refine ck_store ?_); refine ls_store rfl rfl inferInstance inferInstance inferInstance fun _ => ?_)
              | (go_at_call 20; (with_reducible refine (HA.out _).mono ?_); rintro e w' ⟨rfl, hb'⟩; obtain ⟨_, rfl⟩ := KW.go _ hb'; clear hb')
              | (go_at_call 20; (with_reducible refine (HB.out _).mono ?_); rintro e w' ⟨rfl, hb'⟩; obtain ⟨_, rfl⟩ := KW.go _ hb'; clear hb')
              | (go_at_call 21; (with_reducible refine (HO.out _).mono ?_); rintro e w' ⟨rfl, hb'⟩; obtain ⟨_, rfl⟩ := KW.go _ hb'; clear hb')
              | (go_at_call 21; (with_reducible refine (HF.out _).mono ?_); rintro e w' ⟨rfl, hb'⟩; obtain ⟨_, rfl⟩ := KW.go _ hb'; clear hb')
              | (go_at_call 21; (with_reducible refine (HL.out _).mono ?_); rintro e w' ⟨rfl, hb'⟩; obtain ⟨_, rfl⟩ := KW.go _ hb'; clear hb'))
            go_roundw
            case rel => exact ⟨m + 1, true, m, m, by (try rw [hX.out, hY.out]); exact ex_weak inferInstance ⟨rfl, by go_num⟩ HN⟩
            case measure => simpa [intOf] using HM.out
    · obtain rfl : m = 4 := by have := hm.out; omega
      have b0 : decide (((4 : Nat) : Int) < 4) = false := rfl
      have hg := hm.out.2
      clear hc
      rw [hg] at hFX hFY hLX hLY
      dsimp only at hFX hFY hLX hLY
      revert v
      rw [← hFX.out, ← hFY.out, ← hLX.out, ← hLY.out]
      clear hm hg hFX hFY hLX hLY
      intro v
      have hS : refS z u p q FX FY LX LY = if (FX == LX && FY == LY) = true then ⟨1, if (FX == z && FY == u) = true then 1 else 0, if (FX == p && FY == q) = true then 1 else 0, 1, 0, 0, 0, 0⟩ else ⟨2, 0, 0, 0, FX, FY, LX, LY⟩ := rfl
      have HE := fun w => eqlPt FX FY LX LY w
      have HE1 := fun w => eqlPt FX FY z u w
      have HE2 := fun w => eqlPt FX FY p q w
      generalize (FX == LX && FY == LY) = b1 at *
      generalize (FX == z && FY == u) = b2 at *
      generalize (FX == p && FY == q) = b3 at *
      cases b1
      · rw [if_neg (by decide)] at hS
        replace hS := Lib.hid hS
        go_wp2_with (first
          | ((with_reducible refine ls_skip ?_ ?_); (exact rfl); (try simp only [Act.put, List.setIfInBounds_toArray, List.set_cons_succ, List.set_cons_zero]))
          | ((with_reducible refine ck_alloc ?_); refine ls_alloc inferInstance fun _ _ => ?_)
          | ((with_reducible refine ck_load ?_); first | refine ls_load rfl inferInstance inferInstance ?_ | refine ls_cell rfl inferInstance inferInstance ?_)
          | ((with_reducible refine ck_store ?_); refine ls_store rfl rfl inferInstance inferInstance inferInstance fun _ => ?_)
          | ((with_reducible refine ck_build (t := 27) (xs := #[(0, _), (4, _), (5, _)]) ?_); refine ls_Meet_045 rfl rfl rfl ?_))
        exact bd_cell Try.results7 rfl inferInstance inferInstance ⟨congrArg Ending.returned (congrArg MT.v hS.out).symm, KW.below _⟩
      · rw [if_pos rfl] at hS
        cases b2 <;> cases b3
        all_goals (
          simp only [Bool.false_eq_true, if_true, if_false] at hS
          replace hS := Lib.hid hS
          go_wp2_with (first
            | ((with_reducible refine ls_skip ?_ ?_); (exact rfl); (try simp only [Act.put, List.setIfInBounds_toArray, List.set_cons_succ, List.set_cons_zero]))
            | ((with_reducible refine ck_alloc ?_); refine ls_alloc inferInstance fun _ _ => ?_)
            | ((with_reducible refine ck_load ?_); first | refine ls_load rfl inferInstance inferInstance ?_ | refine ls_cell rfl inferInstance inferInstance ?_)
            | ((with_reducible refine ck_store ?_); refine ls_store rfl rfl inferInstance inferInstance inferInstance fun _ => ?_)
            | ((with_reducible refine ck_store ?_); refine ls_put (v := .int _ _) rfl rfl inferInstance inferInstance inferInstance fun _ => ?_)
            | ((with_reducible refine ck_build (t := 27) (xs := #[(0, _), (3, _)]) ?_); refine ls_Meet_03 rfl rfl ?_))
          exact bd_cell Try.results7 rfl inferInstance inferInstance ⟨congrArg Ending.returned (congrArg MT.v hS.out).symm, KW.below _⟩)
end Go.Proofs.Ytoahcjjndjdljaa.MeW
