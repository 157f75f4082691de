/-
  The walk of the law MeetWhole.
-/
import Derived.Test.YtoahcjjndjdljaaMeLaws3
namespace Go.Proofs.Ytoahcjjndjdljaa.MeW
open Go.RowKit
open KM PtM OrM PtW OrW MeM RatM WideM WideV WideW SignM SignW RatW DigM
set_option maxRecDepth 100000 in
set_option maxHeartbeats 12800000 in
theorem meetWhole_yes (N D : Nat) (m x1 y1 z1 u1 x y z u s t p q : Int) (hN : N ≤ D) (hD : 0 < D) (hD' : D ≤ 9223372036854775807) (h : lineP x y z u = true) (w : World) : Calls Try.prog 5 #[mtv 1 N m D x1 y1 z1 u1, sgv x y z u, sgv s t p q] w (TrueAt9 w) := by
  have HA := Lib.hid (fun w => awake9_any w)
  have HB1 : Hid (1 < WideM.B) := Lib.hid (lit_B (by omega))
  have HW := fun w => whole_yes N D m x1 y1 z1 u1 x y z u hN hD hD' h w
  have HL := fun w => rline_any x y z u w
  rw [h] at HL
  replace HL := Lib.hid HL
  obtain ⟨a, b, _⟩ := line_iff.1 h
  obtain ⟨ax, ay⟩ := mayP_iff.1 a
  obtain ⟨bx, by'⟩ := mayP_iff.1 b
  have b1 : decide ((D : Int) < 1) = false := decide_eq_false (by omega)
  have b2 : decide ((N : Int) < 0) = false := decide_eq_false (by omega)
  have b3 : decide ((D : Int) < N) = false := decide_eq_false (by omega)
  have w1 : IntKind.i64.wrap (z - x) = z - x := by rw [IntKind.wrap_i64]; omega
  have w2 : IntKind.i64.wrap (u - y) = u - y := by rw [IntKind.wrap_i64]; omega
  have P1 := fun w => rpart9_any (z - x) N D (by omega) hN hD hD' w
  have P2 := fun w => rpart9_any (u - y) N D (by omega) hN hD hD' w
  have F1 := @part_facts (z - x) N D x (by omega) hN hD ax
  have F2 := @part_facts (u - y) N D y (by omega) hN hD ay
  have L1 : lowD ((z - x) * N) D < M := pow_M (k := 64) (Nat.lt_of_le_of_lt lowD_le (by omega)) (by omega)
  have L2 : lowD ((u - y) * N) D < M := pow_M (k := 64) (Nat.lt_of_le_of_lt lowD_le (by omega)) (by omega)
  have E1 := fun w => eqlW (lowD ((z - x) * N) D) 1 L1 (pow_M (k := 64) (by omega) (by omega)) w
  have E2 := fun w => eqlW (lowD ((u - y) * N) D) 1 L2 (pow_M (k := 64) (by omega) (by omega)) w
  rw [frD] at E1 E2
  unfold frV at P1 P2
  have HK := fun w => meet_any x y z u s t p q w
  have hk := @meet_place x y z u s t p q
  have ho := meet_other x y z u s t p q
  generalize meetM s t p q x y z u = K' at *
  generalize meetM x y z u s t p q = K at *
  obtain ⟨k2, n2, m2, e2, x2, y2, z2, u2⟩ := K
  dsimp only at *
  have hkk : (k2 != 1) = true ∨ (k2 = 1 ∧ ∃ V : Value, ∃ (N2 M2 D2 : Nat) (s1 s2 : Bool) (j1 j2 c1 c2 : Nat) (i0 : Bool) (i1 i2 : Nat), n2 = N2 ∧ m2 = M2 ∧ e2 = D2 ∧ IntKind.i64.wrap (p - s) = p - s ∧
      (∀ w, Calls Try.prog 13 #[.int .i64 (z - x), .int .i64 N2, .int .i64 D2] w (Ret (rv s1 j1 c1) w)) ∧
      (∀ w, Calls Try.prog 13 #[.int .i64 (p - s), .int .i64 M2, .int .i64 D2] w (Ret (rv s2 j2 c2) w)) ∧
      (∀ w, Calls Try.prog 14 #[.int .i64 x] w (Ret (nv x) w)) ∧
      (∀ w, Calls Try.prog 14 #[.int .i64 s] w (Ret (nv s) w)) ∧
      (∀ w, Calls Try.prog 15 #[rv s1 j1 c1, rv (ng x) x.natAbs 1] w (Ret (rv i0 i1 i2) w)) ∧
      (∀ w, Calls Try.prog 15 #[rv s2 j2 c2, rv (ng s) s.natAbs 1] w (Ret (rv i0 i1 i2) w))) := by
    by_cases hk1 : k2 = 1
    · right
      refine ⟨hk1, ?_⟩
      subst hk1
      obtain ⟨g1, g2, ⟨g3, g4⟩, g5⟩ := hk rfl
      obtain ⟨a2, b2', _⟩ := line_iff.1 g2
      obtain ⟨a2x, _⟩ := mayP_iff.1 a2
      obtain ⟨b2x, _⟩ := mayP_iff.1 b2'
      rcases ho with ⟨_, _, o1, o2, o3, o4⟩ | ⟨hc, _⟩
      · obtain ⟨N2, rfl⟩ := Int.eq_ofNat_of_zero_le o1
        obtain ⟨M2, rfl⟩ := Int.eq_ofNat_of_zero_le o3
        obtain ⟨D2, rfl⟩ := Int.eq_ofNat_of_zero_le (Int.le_of_lt g3)
        have q1 := fun w => rpart9_any (z - x) N2 D2 (by omega) (by omega) (by omega) (by omega) w
        have q2 := fun w => rpart9_any (p - s) M2 D2 (by omega) (by omega) (by omega) (by omega) w
        have q3 := fun w => SignW.rof_any x (by omega) (by omega) w
        have q4 := fun w => SignW.rof_any s (by omega) (by omega) w
        have q5 := fun w => radd9_any x (z - x) N2 D2 ax (by omega) (by omega) (by omega) (by omega) w
        have q6 := fun w => radd9_any s (p - s) M2 D2 a2x (by omega) (by omega) (by omega) (by omega) w
        rw [place_same g5] at q5
        exact ⟨.bool true, N2, M2, D2, _, _, _, _, _, _, _, _, _, rfl, rfl, rfl, by rw [IntKind.wrap_i64]; omega, q1, q2, q3, q4, q5, q6⟩
      · cases hc
    · left; rw [bne_iff_ne]; exact hk1
  clear hk ho
  generalize partO ((z - x) * N) D = o1 at *
  generalize partO ((u - y) * N) D = o2 at *
  generalize partN x ((z - x) * N) D = X at *
  generalize partN y ((u - y) * N) D = Y at *
  generalize lowN ((z - x) * N) D = lx at *
  generalize lowN ((u - y) * N) D = ly at *
  generalize lowD ((z - x) * N) D = ex at *
  generalize lowD ((u - y) * N) D = ey at *
  clear hN hD hD' ax ay bx by' h a b L1 L2
  generalize (N : Int) = N' at *
  generalize (D : Int) = D' at *
  replace P1 := Lib.hid P1
  replace P2 := Lib.hid P2
  rcases hkk with hkk | ⟨rfl, V, N2, M2, D2, s1, s2, j1, j2, c1, c2, i0, i1, i2, rfl, rfl, rfl, w3, Q1, Q2, Q3, Q4, Q5, Q6⟩
  · skip
    unfold MT.v at HK
    dsimp only at HK
    replace HK := Lib.hid HK
    cases o1
    · rw [Bool.false_and, if_neg (by decide)] at HW
      replace HW := Lib.hid HW
      clear F1 F2
      refine enter fun u => ?_
      go_enter Try.func5, Try.ntmps5
      go_wp2_with (first
        | ((with_reducible refine ls_skip ?_ ?_); (exact rfl); (try simp only [Act.put, List.setIfInBounds_toArray, List.set_cons_succ, List.set_cons_zero]))
        | ((with_reducible refine ck_box ?_); refine list_box rfl fun _ _ => ?_)
        | ((with_reducible refine ck_alloc ?_); refine ls_alloc inferInstance fun _ _ => ?_)
        | ((with_reducible refine ck_load ?_); first | refine ls_load rfl inferInstance inferInstance ?_ | refine ls_cell rfl inferInstance inferInstance ?_)
        | ((with_reducible refine ck_gload ?_); first | refine lsg_load rfl rfl inferInstance inferInstance ?_ | refine lsg_cell rfl rfl inferInstance inferInstance ?_)
        | ((with_reducible refine ck_store ?_); refine ls_store rfl rfl inferInstance inferInstance inferInstance fun _ => ?_)
        | (go_at_call 11; (with_reducible refine (HW.out _).mono ?_); rintro e w' ⟨rfl, hb'⟩; obtain ⟨_, rfl⟩ := KW.go _ hb'; clear hb')
        | (go_at_call 12; (with_reducible refine (HL.out _).mono ?_); rintro e w' ⟨rfl, hb'⟩; obtain ⟨_, rfl⟩ := KW.go _ hb'; clear hb'))
      refine region_mixS [.take 0, .take 1, .take 2, .take 3, .take 4, .take 5, .take 6, .take 7, .take 8, .take 9, .take 10, .take 11, .take 12, .take 13, .take 14, .take 15, .take 16, .take 17, .take 18, .take 19, .take 20, .take 21, .take 22, .take 23, .two 24 25, .sole 26, .sole 27] _ (Sub.both (h := Sub.both (h := Sub.both (h := Sub.both (h := Sub.nil))))) (by kernel_rfl) (by kernel_rfl) ?_
      simp only [picksM, Mv.pick, List.filterMap_cons, List.filterMap_nil, List.getElem?_cons_zero, List.getElem?_cons_succ, Option.map_some]
      refine MM.out ?_
      repeat (first
        | ((with_reducible apply mm_load); exact rfl; infer_instance; infer_instance; (try simp only [Act.put, List.setIfInBounds_toArray, List.set_cons_succ, List.set_cons_zero]))
        | ((with_reducible apply mm_cell); exact rfl; infer_instance; infer_instance; (try simp only [Act.put, List.setIfInBounds_toArray, List.set_cons_succ, List.set_cons_zero]))
        | ((with_reducible apply mm_callf (f := 13)); (intro _; go_simp; try exact rfl); (with_reducible exact fun _ u => P1.out _); (try simp only [Act.put, List.setIfInBounds_toArray, List.set_cons_succ, List.set_cons_zero]))
        | ((with_reducible apply mo_callf (f := 13)); infer_instance; (intro _; go_simp; try exact rfl); (with_reducible exact fun u => P1.out _); (try simp only [Act.put, List.setIfInBounds_toArray, List.set_cons_succ, List.set_cons_zero]))
        | ((with_reducible apply mm_callf (f := 13)); (intro _; go_simp; try exact rfl); (with_reducible exact fun _ u => P2.out _); (try simp only [Act.put, List.setIfInBounds_toArray, List.set_cons_succ, List.set_cons_zero]))
        | ((with_reducible apply mo_callf (f := 13)); infer_instance; (intro _; go_simp; try exact rfl); (with_reducible exact fun u => P2.out _); (try simp only [Act.put, List.setIfInBounds_toArray, List.set_cons_succ, List.set_cons_zero]))
        | ((with_reducible apply mm_value); (intro _; go_simp; try exact rfl); (try simp only [Act.put, List.setIfInBounds_toArray, List.set_cons_succ, List.set_cons_zero]))
        | ((with_reducible apply mo_store); exact rfl; exact rfl; infer_instance; infer_instance; infer_instance; infer_instance; (try simp only [Act.put, List.setIfInBounds_toArray, List.set_cons_succ, List.set_cons_zero]))
        | ((with_reducible apply mo_put); exact rfl; exact rfl; infer_instance; infer_instance; infer_instance; infer_instance; (try simp only [Act.put, List.setIfInBounds_toArray, List.set_cons_succ, List.set_cons_zero]))
        | ((with_reducible apply mo_alloc); infer_instance; infer_instance; intro _; (try simp only [Act.put, List.setIfInBounds_toArray, List.set_cons_succ, List.set_cons_zero]))
        | ((with_reducible apply mo_three); (decide); (decide); infer_instance; infer_instance; infer_instance; intro _ _ _; (try simp only [Act.put, List.setIfInBounds_toArray, List.set_cons_succ, List.set_cons_zero]))
        | ((with_reducible apply mo_four); (decide); (decide); infer_instance; infer_instance; infer_instance; infer_instance; intro _ _ _ _; (try simp only [Act.put, List.setIfInBounds_toArray, List.set_cons_succ, List.set_cons_zero]))
        | ((with_reducible apply mo_two); infer_instance; infer_instance; (decide); intro _ _; (try simp only [Act.put, List.setIfInBounds_toArray, List.set_cons_succ, List.set_cons_zero]))
        | ((with_reducible apply mo_load); infer_instance; exact rfl; infer_instance; infer_instance; (try simp only [Act.put, List.setIfInBounds_toArray, List.set_cons_succ, List.set_cons_zero]))
        | ((with_reducible apply mo_cell); infer_instance; exact rfl; infer_instance; infer_instance; (try simp only [Act.put, List.setIfInBounds_toArray, List.set_cons_succ, List.set_cons_zero]))
        | ((with_reducible apply mo_value); infer_instance; (intro _; go_simp; try exact rfl); (try simp only [Act.put, List.setIfInBounds_toArray, List.set_cons_succ, List.set_cons_zero])))
      refine mm_nil fun u7 => ?_
      go_wp2_with (first
        | ((with_reducible refine ls_skip ?_ ?_); (exact rfl); (try simp only [Act.put, List.setIfInBounds_toArray, List.set_cons_succ, List.set_cons_zero]))
        | ((with_reducible refine ck_alloc ?_); refine ls_alloc inferInstance fun _ _ => ?_)
        | ((with_reducible refine ck_load ?_); first | refine ls_load rfl inferInstance inferInstance ?_ | refine ls_cell rfl inferInstance inferInstance ?_)
        | ((with_reducible refine ck_gload ?_); first | refine lsg_load rfl rfl inferInstance inferInstance ?_ | refine lsg_cell rfl rfl inferInstance inferInstance ?_)
        | ((with_reducible refine ck_store ?_); refine ls_store rfl rfl inferInstance inferInstance inferInstance fun _ => ?_)
        | ((with_reducible refine ck_build (t := 37) (xs := #[(0, _)]) ?_); refine ls_W1 rfl HB1 ?_)
        | ((with_reducible refine ck_build (t := 23) (xs := #[]) ?_); refine ls_Pt_ ?_)
        | ((with_reducible refine ck_gbuild (t := 23) (xs := #[]) ?_); refine lsg_Pt_ rfl ?_))
      refine region (by kernel_rfl) (by kernel_rfl) fun _ => ?_
      refine QQ.out ?_
      repeat (first
        | ((with_reducible apply qq_skip); (exact rfl); (try simp only [Act.put, List.setIfInBounds_toArray, List.set_cons_succ, List.set_cons_zero]))
        | ((with_reducible apply qq_load); exact rfl; infer_instance; infer_instance; exact rfl; (try simp only [Act.put, List.setIfInBounds_toArray, List.set_cons_succ, List.set_cons_zero]))
        | ((with_reducible apply qq_cell); exact rfl; infer_instance; infer_instance; exact rfl; (try simp only [Act.put, List.setIfInBounds_toArray, List.set_cons_succ, List.set_cons_zero]))
        | ((with_reducible apply qq_value); (intro _; go_simp; try exact rfl); exact rfl; (try simp only [Act.put, List.setIfInBounds_toArray, List.set_cons_succ, List.set_cons_zero])))
      refine qq_nil ?_
      rintro _ ⟨u8, rfl⟩
      go_wp2_with (first
        | ((with_reducible refine ls_skip ?_ ?_); (exact rfl); (try simp only [Act.put, List.setIfInBounds_toArray, List.set_cons_succ, List.set_cons_zero]))
        | ((with_reducible refine ck_alloc ?_); refine ls_alloc inferInstance fun _ _ => ?_)
        | ((with_reducible refine ck_load ?_); first | refine ls_load rfl inferInstance inferInstance ?_ | refine ls_cell rfl inferInstance inferInstance ?_)
        | ((with_reducible refine ck_gload ?_); first | refine lsg_load rfl rfl inferInstance inferInstance ?_ | refine lsg_cell rfl rfl inferInstance inferInstance ?_)
        | ((with_reducible refine ck_store ?_); refine ls_store rfl rfl inferInstance inferInstance inferInstance fun _ => ?_)
        | (go_at_call 6; (with_reducible refine (HK.out _).mono ?_); rintro e w' ⟨rfl, hb'⟩; obtain ⟨_, rfl⟩ := KW.go _ hb'; clear hb')
        | (go_at_call 9; (with_reducible refine (HA.out _).mono ?_); rintro e w' ⟨rfl, hb'⟩; obtain ⟨_, rfl⟩ := KW.go _ hb'; clear hb'))
      go_ret
      exact ⟨rfl, KW.below _⟩
    cases o2
    · rw [Bool.true_and, if_neg (by decide)] at HW
      replace HW := Lib.hid HW
      clear F1 F2
      refine enter fun u => ?_
      go_enter Try.func5, Try.ntmps5
      go_wp2_with (first
        | ((with_reducible refine ls_skip ?_ ?_); (exact rfl); (try simp only [Act.put, List.setIfInBounds_toArray, List.set_cons_succ, List.set_cons_zero]))
        | ((with_reducible refine ck_box ?_); refine list_box rfl fun _ _ => ?_)
        | ((with_reducible refine ck_alloc ?_); refine ls_alloc inferInstance fun _ _ => ?_)
        | ((with_reducible refine ck_load ?_); first | refine ls_load rfl inferInstance inferInstance ?_ | refine ls_cell rfl inferInstance inferInstance ?_)
        | ((with_reducible refine ck_gload ?_); first | refine lsg_load rfl rfl inferInstance inferInstance ?_ | refine lsg_cell rfl rfl inferInstance inferInstance ?_)
        | ((with_reducible refine ck_store ?_); refine ls_store rfl rfl inferInstance inferInstance inferInstance fun _ => ?_)
        | (go_at_call 11; (with_reducible refine (HW.out _).mono ?_); rintro e w' ⟨rfl, hb'⟩; obtain ⟨_, rfl⟩ := KW.go _ hb'; clear hb')
        | (go_at_call 12; (with_reducible refine (HL.out _).mono ?_); rintro e w' ⟨rfl, hb'⟩; obtain ⟨_, rfl⟩ := KW.go _ hb'; clear hb'))
      refine region_mixS [.take 0, .take 1, .take 2, .take 3, .take 4, .take 5, .take 6, .take 7, .take 8, .take 9, .take 10, .take 11, .take 12, .take 13, .take 14, .take 15, .take 16, .take 17, .take 18, .take 19, .take 20, .take 21, .take 22, .take 23, .two 24 25, .sole 26, .sole 27] _ (Sub.both (h := Sub.both (h := Sub.both (h := Sub.both (h := Sub.nil))))) (by kernel_rfl) (by kernel_rfl) ?_
      simp only [picksM, Mv.pick, List.filterMap_cons, List.filterMap_nil, List.getElem?_cons_zero, List.getElem?_cons_succ, Option.map_some]
      refine MM.out ?_
      repeat (first
        | ((with_reducible apply mm_load); exact rfl; infer_instance; infer_instance; (try simp only [Act.put, List.setIfInBounds_toArray, List.set_cons_succ, List.set_cons_zero]))
        | ((with_reducible apply mm_cell); exact rfl; infer_instance; infer_instance; (try simp only [Act.put, List.setIfInBounds_toArray, List.set_cons_succ, List.set_cons_zero]))
        | ((with_reducible apply mm_callf (f := 13)); (intro _; go_simp; try exact rfl); (with_reducible exact fun _ u => P1.out _); (try simp only [Act.put, List.setIfInBounds_toArray, List.set_cons_succ, List.set_cons_zero]))
        | ((with_reducible apply mo_callf (f := 13)); infer_instance; (intro _; go_simp; try exact rfl); (with_reducible exact fun u => P1.out _); (try simp only [Act.put, List.setIfInBounds_toArray, List.set_cons_succ, List.set_cons_zero]))
        | ((with_reducible apply mm_callf (f := 13)); (intro _; go_simp; try exact rfl); (with_reducible exact fun _ u => P2.out _); (try simp only [Act.put, List.setIfInBounds_toArray, List.set_cons_succ, List.set_cons_zero]))
        | ((with_reducible apply mo_callf (f := 13)); infer_instance; (intro _; go_simp; try exact rfl); (with_reducible exact fun u => P2.out _); (try simp only [Act.put, List.setIfInBounds_toArray, List.set_cons_succ, List.set_cons_zero]))
        | ((with_reducible apply mm_value); (intro _; go_simp; try exact rfl); (try simp only [Act.put, List.setIfInBounds_toArray, List.set_cons_succ, List.set_cons_zero]))
        | ((with_reducible apply mo_store); exact rfl; exact rfl; infer_instance; infer_instance; infer_instance; infer_instance; (try simp only [Act.put, List.setIfInBounds_toArray, List.set_cons_succ, List.set_cons_zero]))
        | ((with_reducible apply mo_put); exact rfl; exact rfl; infer_instance; infer_instance; infer_instance; infer_instance; (try simp only [Act.put, List.setIfInBounds_toArray, List.set_cons_succ, List.set_cons_zero]))
        | ((with_reducible apply mo_alloc); infer_instance; infer_instance; intro _; (try simp only [Act.put, List.setIfInBounds_toArray, List.set_cons_succ, List.set_cons_zero]))
        | ((with_reducible apply mo_three); (decide); (decide); infer_instance; infer_instance; infer_instance; intro _ _ _; (try simp only [Act.put, List.setIfInBounds_toArray, List.set_cons_succ, List.set_cons_zero]))
        | ((with_reducible apply mo_four); (decide); (decide); infer_instance; infer_instance; infer_instance; infer_instance; intro _ _ _ _; (try simp only [Act.put, List.setIfInBounds_toArray, List.set_cons_succ, List.set_cons_zero]))
        | ((with_reducible apply mo_two); infer_instance; infer_instance; (decide); intro _ _; (try simp only [Act.put, List.setIfInBounds_toArray, List.set_cons_succ, List.set_cons_zero]))
        | ((with_reducible apply mo_load); infer_instance; exact rfl; infer_instance; infer_instance; (try simp only [Act.put, List.setIfInBounds_toArray, List.set_cons_succ, List.set_cons_zero]))
        | ((with_reducible apply mo_cell); infer_instance; exact rfl; infer_instance; infer_instance; (try simp only [Act.put, List.setIfInBounds_toArray, List.set_cons_succ, List.set_cons_zero]))
        | ((with_reducible apply mo_value); infer_instance; (intro _; go_simp; try exact rfl); (try simp only [Act.put, List.setIfInBounds_toArray, List.set_cons_succ, List.set_cons_zero])))
      refine mm_nil fun u7 => ?_
      go_wp2_with (first
        | ((with_reducible refine ls_skip ?_ ?_); (exact rfl); (try simp only [Act.put, List.setIfInBounds_toArray, List.set_cons_succ, List.set_cons_zero]))
        | ((with_reducible refine ck_alloc ?_); refine ls_alloc inferInstance fun _ _ => ?_)
        | ((with_reducible refine ck_load ?_); first | refine ls_load rfl inferInstance inferInstance ?_ | refine ls_cell rfl inferInstance inferInstance ?_)
        | ((with_reducible refine ck_gload ?_); first | refine lsg_load rfl rfl inferInstance inferInstance ?_ | refine lsg_cell rfl rfl inferInstance inferInstance ?_)
        | ((with_reducible refine ck_store ?_); refine ls_store rfl rfl inferInstance inferInstance inferInstance fun _ => ?_)
        | ((with_reducible refine ck_build (t := 37) (xs := #[(0, _)]) ?_); refine ls_W1 rfl HB1 ?_)
        | ((with_reducible refine ck_build (t := 23) (xs := #[]) ?_); refine ls_Pt_ ?_)
        | ((with_reducible refine ck_gbuild (t := 23) (xs := #[]) ?_); refine lsg_Pt_ rfl ?_))
      refine region (by kernel_rfl) (by kernel_rfl) fun _ => ?_
      refine QQ.out ?_
      repeat (first
        | ((with_reducible apply qq_skip); (exact rfl); (try simp only [Act.put, List.setIfInBounds_toArray, List.set_cons_succ, List.set_cons_zero]))
        | ((with_reducible apply qq_load); exact rfl; infer_instance; infer_instance; exact rfl; (try simp only [Act.put, List.setIfInBounds_toArray, List.set_cons_succ, List.set_cons_zero]))
        | ((with_reducible apply qq_cell); exact rfl; infer_instance; infer_instance; exact rfl; (try simp only [Act.put, List.setIfInBounds_toArray, List.set_cons_succ, List.set_cons_zero]))
        | ((with_reducible apply qq_value); (intro _; go_simp; try exact rfl); exact rfl; (try simp only [Act.put, List.setIfInBounds_toArray, List.set_cons_succ, List.set_cons_zero])))
      refine qq_nil ?_
      rintro _ ⟨u8, rfl⟩
      go_wp2_with (first
        | ((with_reducible refine ls_skip ?_ ?_); (exact rfl); (try simp only [Act.put, List.setIfInBounds_toArray, List.set_cons_succ, List.set_cons_zero]))
        | ((with_reducible refine ck_alloc ?_); refine ls_alloc inferInstance fun _ _ => ?_)
        | ((with_reducible refine ck_load ?_); first | refine ls_load rfl inferInstance inferInstance ?_ | refine ls_cell rfl inferInstance inferInstance ?_)
        | ((with_reducible refine ck_gload ?_); first | refine lsg_load rfl rfl inferInstance inferInstance ?_ | refine lsg_cell rfl rfl inferInstance inferInstance ?_)
        | ((with_reducible refine ck_store ?_); refine ls_store rfl rfl inferInstance inferInstance inferInstance fun _ => ?_)
        | (go_at_call 6; (with_reducible refine (HK.out _).mono ?_); rintro e w' ⟨rfl, hb'⟩; obtain ⟨_, rfl⟩ := KW.go _ hb'; clear hb')
        | (go_at_call 9; (with_reducible refine (HA.out _).mono ?_); rintro e w' ⟨rfl, hb'⟩; obtain ⟨_, rfl⟩ := KW.go _ hb'; clear hb'))
      go_ret
      exact ⟨rfl, KW.below _⟩
    · rw [Bool.true_and, if_pos rfl] at HW
      replace HW := Lib.hid HW
      obtain ⟨f1, f2, f3⟩ := F1 rfl
      obtain ⟨f4, f5, f6⟩ := F2 rfl
      have O1 := fun w => SignW.rof_any lx f2 f3 w
      have O2 := fun w => SignW.rof_any ly f5 f6 w
      unfold nv at O1 O2
      clear F1 F2 f2 f3 f5 f6
      generalize ng lx = v5 at *
      generalize lx.natAbs = v6 at *
      generalize ng ly = v7 at *
      generalize ly.natAbs = v8 at *
      replace O1 := Lib.hid O1
      replace O2 := Lib.hid O2
      refine enter fun u => ?_
      go_enter Try.func5, Try.ntmps5
      go_wp2_with (first
        | ((with_reducible refine ls_skip ?_ ?_); (exact rfl); (try simp only [Act.put, List.setIfInBounds_toArray, List.set_cons_succ, List.set_cons_zero]))
        | ((with_reducible refine ck_box ?_); refine list_box rfl fun _ _ => ?_)
        | ((with_reducible refine ck_alloc ?_); refine ls_alloc inferInstance fun _ _ => ?_)
        | ((with_reducible refine ck_load ?_); first | refine ls_load rfl inferInstance inferInstance ?_ | refine ls_cell rfl inferInstance inferInstance ?_)
        | ((with_reducible refine ck_gload ?_); first | refine lsg_load rfl rfl inferInstance inferInstance ?_ | refine lsg_cell rfl rfl inferInstance inferInstance ?_)
        | ((with_reducible refine ck_store ?_); refine ls_store rfl rfl inferInstance inferInstance inferInstance fun _ => ?_)
        | (go_at_call 11; (with_reducible refine (HW.out _).mono ?_); rintro e w' ⟨rfl, hb'⟩; obtain ⟨_, rfl⟩ := KW.go _ hb'; clear hb')
        | (go_at_call 12; (with_reducible refine (HL.out _).mono ?_); rintro e w' ⟨rfl, hb'⟩; obtain ⟨_, rfl⟩ := KW.go _ hb'; clear hb'))
      refine region_mixS [.take 0, .take 1, .take 2, .take 3, .take 4, .take 5, .take 6, .take 7, .take 8, .take 9, .take 10, .take 11, .take 12, .take 13, .take 14, .take 15, .take 16, .take 17, .take 18, .take 19, .take 20, .take 21, .take 22, .take 23, .two 24 25, .sole 26, .sole 27] _ (Sub.both (h := Sub.both (h := Sub.both (h := Sub.both (h := Sub.nil))))) (by kernel_rfl) (by kernel_rfl) ?_
      simp only [picksM, Mv.pick, List.filterMap_cons, List.filterMap_nil, List.getElem?_cons_zero, List.getElem?_cons_succ, Option.map_some]
      refine MM.out ?_
      repeat (first
        | ((with_reducible apply mm_load); exact rfl; infer_instance; infer_instance; (try simp only [Act.put, List.setIfInBounds_toArray, List.set_cons_succ, List.set_cons_zero]))
        | ((with_reducible apply mm_cell); exact rfl; infer_instance; infer_instance; (try simp only [Act.put, List.setIfInBounds_toArray, List.set_cons_succ, List.set_cons_zero]))
        | ((with_reducible apply mm_callf (f := 13)); (intro _; go_simp; try exact rfl); (with_reducible exact fun _ u => P1.out _); (try simp only [Act.put, List.setIfInBounds_toArray, List.set_cons_succ, List.set_cons_zero]))
        | ((with_reducible apply mo_callf (f := 13)); infer_instance; (intro _; go_simp; try exact rfl); (with_reducible exact fun u => P1.out _); (try simp only [Act.put, List.setIfInBounds_toArray, List.set_cons_succ, List.set_cons_zero]))
        | ((with_reducible apply mm_callf (f := 13)); (intro _; go_simp; try exact rfl); (with_reducible exact fun _ u => P2.out _); (try simp only [Act.put, List.setIfInBounds_toArray, List.set_cons_succ, List.set_cons_zero]))
        | ((with_reducible apply mo_callf (f := 13)); infer_instance; (intro _; go_simp; try exact rfl); (with_reducible exact fun u => P2.out _); (try simp only [Act.put, List.setIfInBounds_toArray, List.set_cons_succ, List.set_cons_zero]))
        | ((with_reducible apply mm_value); (intro _; go_simp; try exact rfl); (try simp only [Act.put, List.setIfInBounds_toArray, List.set_cons_succ, List.set_cons_zero]))
        | ((with_reducible apply mo_store); exact rfl; exact rfl; infer_instance; infer_instance; infer_instance; infer_instance; (try simp only [Act.put, List.setIfInBounds_toArray, List.set_cons_succ, List.set_cons_zero]))
        | ((with_reducible apply mo_put); exact rfl; exact rfl; infer_instance; infer_instance; infer_instance; infer_instance; (try simp only [Act.put, List.setIfInBounds_toArray, List.set_cons_succ, List.set_cons_zero]))
        | ((with_reducible apply mo_alloc); infer_instance; infer_instance; intro _; (try simp only [Act.put, List.setIfInBounds_toArray, List.set_cons_succ, List.set_cons_zero]))
        | ((with_reducible apply mo_three); (decide); (decide); infer_instance; infer_instance; infer_instance; intro _ _ _; (try simp only [Act.put, List.setIfInBounds_toArray, List.set_cons_succ, List.set_cons_zero]))
        | ((with_reducible apply mo_four); (decide); (decide); infer_instance; infer_instance; infer_instance; infer_instance; intro _ _ _ _; (try simp only [Act.put, List.setIfInBounds_toArray, List.set_cons_succ, List.set_cons_zero]))
        | ((with_reducible apply mo_two); infer_instance; infer_instance; (decide); intro _ _; (try simp only [Act.put, List.setIfInBounds_toArray, List.set_cons_succ, List.set_cons_zero]))
        | ((with_reducible apply mo_load); infer_instance; exact rfl; infer_instance; infer_instance; (try simp only [Act.put, List.setIfInBounds_toArray, List.set_cons_succ, List.set_cons_zero]))
        | ((with_reducible apply mo_cell); infer_instance; exact rfl; infer_instance; infer_instance; (try simp only [Act.put, List.setIfInBounds_toArray, List.set_cons_succ, List.set_cons_zero]))
        | ((with_reducible apply mo_value); infer_instance; (intro _; go_simp; try exact rfl); (try simp only [Act.put, List.setIfInBounds_toArray, List.set_cons_succ, List.set_cons_zero])))
      refine mm_nil fun u7 => ?_
      go_wp2_with (first
        | ((with_reducible refine ls_skip ?_ ?_); (exact rfl); (try simp only [Act.put, List.setIfInBounds_toArray, List.set_cons_succ, List.set_cons_zero]))
        | ((with_reducible refine ck_alloc ?_); refine ls_alloc inferInstance fun _ _ => ?_)
        | ((with_reducible refine ck_load ?_); first | refine ls_load rfl inferInstance inferInstance ?_ | refine ls_cell rfl inferInstance inferInstance ?_)
        | ((with_reducible refine ck_gload ?_); first | refine lsg_load rfl rfl inferInstance inferInstance ?_ | refine lsg_cell rfl rfl inferInstance inferInstance ?_)
        | ((with_reducible refine ck_store ?_); refine ls_store rfl rfl inferInstance inferInstance inferInstance fun _ => ?_)
        | ((with_reducible refine ck_build (t := 37) (xs := #[(0, _)]) ?_); refine ls_W1 rfl HB1 ?_)
        | ((with_reducible refine ck_build (t := 23) (xs := #[]) ?_); refine ls_Pt_ ?_)
        | ((with_reducible refine ck_gbuild (t := 23) (xs := #[]) ?_); refine lsg_Pt_ rfl ?_))
      refine region (by kernel_rfl) (by kernel_rfl) fun _ => ?_
      refine QQ.out ?_
      repeat (first
        | ((with_reducible apply qq_skip); (exact rfl); (try simp only [Act.put, List.setIfInBounds_toArray, List.set_cons_succ, List.set_cons_zero]))
        | ((with_reducible apply qq_load); exact rfl; infer_instance; infer_instance; exact rfl; (try simp only [Act.put, List.setIfInBounds_toArray, List.set_cons_succ, List.set_cons_zero]))
        | ((with_reducible apply qq_cell); exact rfl; infer_instance; infer_instance; exact rfl; (try simp only [Act.put, List.setIfInBounds_toArray, List.set_cons_succ, List.set_cons_zero]))
        | ((with_reducible apply qq_callf (f := 14)); (intro _; go_simp; try exact rfl); (with_reducible exact fun u => O1.out _); exact rfl; (try simp only [Act.put, List.setIfInBounds_toArray, List.set_cons_succ, List.set_cons_zero]))
        | ((with_reducible apply qq_callf (f := 14)); (intro _; go_simp; try exact rfl); (with_reducible exact fun u => O2.out _); exact rfl; (try simp only [Act.put, List.setIfInBounds_toArray, List.set_cons_succ, List.set_cons_zero]))
        | ((with_reducible apply qq_value); (intro _; go_simp; try exact rfl); exact rfl; (try simp only [Act.put, List.setIfInBounds_toArray, List.set_cons_succ, List.set_cons_zero])))
      refine qq_nil ?_
      rintro _ ⟨u8, rfl⟩
      go_wp2_with (first
        | ((with_reducible refine ls_skip ?_ ?_); (exact rfl); (try simp only [Act.put, List.setIfInBounds_toArray, List.set_cons_succ, List.set_cons_zero]))
        | ((with_reducible refine ck_alloc ?_); refine ls_alloc inferInstance fun _ _ => ?_)
        | ((with_reducible refine ck_load ?_); first | refine ls_load rfl inferInstance inferInstance ?_ | refine ls_cell rfl inferInstance inferInstance ?_)
        | ((with_reducible refine ck_gload ?_); first | refine lsg_load rfl rfl inferInstance inferInstance ?_ | refine lsg_cell rfl rfl inferInstance inferInstance ?_)
        | ((with_reducible refine ck_store ?_); refine ls_store rfl rfl inferInstance inferInstance inferInstance fun _ => ?_)
        | (go_at_call 6; (with_reducible refine (HK.out _).mono ?_); rintro e w' ⟨rfl, hb'⟩; obtain ⟨_, rfl⟩ := KW.go _ hb'; clear hb')
        | (go_at_call 9; (with_reducible refine (HA.out _).mono ?_); rintro e w' ⟨rfl, hb'⟩; obtain ⟨_, rfl⟩ := KW.go _ hb'; clear hb'))
      go_ret
      exact ⟨rfl, KW.below _⟩
  · have hkk : ((1 : Int) != 1) = false := rfl
    unfold MT.v at HK
    dsimp only at HK
    replace HK := Lib.hid HK
    clear V
    unfold nv at Q3 Q4
    generalize ng x = v1 at *
    generalize x.natAbs = v2 at *
    generalize ng s = v3 at *
    generalize s.natAbs = v4 at *
    generalize (N2 : Int) = N3 at *
    generalize (M2 : Int) = M3 at *
    generalize (D2 : Int) = D3 at *
    replace Q1 := Lib.hid Q1
    replace Q2 := Lib.hid Q2
    replace Q3 := Lib.hid Q3
    replace Q4 := Lib.hid Q4
    replace Q5 := Lib.hid Q5
    replace Q6 := Lib.hid Q6
    cases o1
    · rw [Bool.false_and, if_neg (by decide)] at HW
      replace HW := Lib.hid HW
      clear F1 F2
      refine enter fun u => ?_
      go_enter Try.func5, Try.ntmps5
      go_wp2_with (first
        | ((with_reducible refine ls_skip ?_ ?_); (exact rfl); (try simp only [Act.put, List.setIfInBounds_toArray, List.set_cons_succ, List.set_cons_zero]))
        | ((with_reducible refine ck_box ?_); refine list_box rfl fun _ _ => ?_)
        | ((with_reducible refine ck_alloc ?_); refine ls_alloc inferInstance fun _ _ => ?_)
        | ((with_reducible refine ck_load ?_); first | refine ls_load rfl inferInstance inferInstance ?_ | refine ls_cell rfl inferInstance inferInstance ?_)
        | ((with_reducible refine ck_gload ?_); first | refine lsg_load rfl rfl inferInstance inferInstance ?_ | refine lsg_cell rfl rfl inferInstance inferInstance ?_)
        | ((with_reducible refine ck_store ?_); refine ls_store rfl rfl inferInstance inferInstance inferInstance fun _ => ?_)
        | (go_at_call 11; (with_reducible refine (HW.out _).mono ?_); rintro e w' ⟨rfl, hb'⟩; obtain ⟨_, rfl⟩ := KW.go _ hb'; clear hb')
        | (go_at_call 12; (with_reducible refine (HL.out _).mono ?_); rintro e w' ⟨rfl, hb'⟩; obtain ⟨_, rfl⟩ := KW.go _ hb'; clear hb'))
      refine region_mixS [.take 0, .take 1, .take 2, .take 3, .take 4, .take 5, .take 6, .take 7, .take 8, .take 9, .take 10, .take 11, .take 12, .take 13, .take 14, .take 15, .take 16, .take 17, .take 18, .take 19, .take 20, .take 21, .take 22, .take 23, .two 24 25, .sole 26, .sole 27] _ (Sub.both (h := Sub.both (h := Sub.both (h := Sub.both (h := Sub.nil))))) (by kernel_rfl) (by kernel_rfl) ?_
      simp only [picksM, Mv.pick, List.filterMap_cons, List.filterMap_nil, List.getElem?_cons_zero, List.getElem?_cons_succ, Option.map_some]
      refine MM.out ?_
      repeat (first
        | ((with_reducible apply mm_load); exact rfl; infer_instance; infer_instance; (try simp only [Act.put, List.setIfInBounds_toArray, List.set_cons_succ, List.set_cons_zero]))
        | ((with_reducible apply mm_cell); exact rfl; infer_instance; infer_instance; (try simp only [Act.put, List.setIfInBounds_toArray, List.set_cons_succ, List.set_cons_zero]))
        | ((with_reducible apply mm_callf (f := 13)); (intro _; go_simp; try exact rfl); (with_reducible exact fun _ u => P1.out _); (try simp only [Act.put, List.setIfInBounds_toArray, List.set_cons_succ, List.set_cons_zero]))
        | ((with_reducible apply mo_callf (f := 13)); infer_instance; (intro _; go_simp; try exact rfl); (with_reducible exact fun u => P1.out _); (try simp only [Act.put, List.setIfInBounds_toArray, List.set_cons_succ, List.set_cons_zero]))
        | ((with_reducible apply mm_callf (f := 13)); (intro _; go_simp; try exact rfl); (with_reducible exact fun _ u => P2.out _); (try simp only [Act.put, List.setIfInBounds_toArray, List.set_cons_succ, List.set_cons_zero]))
        | ((with_reducible apply mo_callf (f := 13)); infer_instance; (intro _; go_simp; try exact rfl); (with_reducible exact fun u => P2.out _); (try simp only [Act.put, List.setIfInBounds_toArray, List.set_cons_succ, List.set_cons_zero]))
        | ((with_reducible apply mm_value); (intro _; go_simp; try exact rfl); (try simp only [Act.put, List.setIfInBounds_toArray, List.set_cons_succ, List.set_cons_zero]))
        | ((with_reducible apply mo_store); exact rfl; exact rfl; infer_instance; infer_instance; infer_instance; infer_instance; (try simp only [Act.put, List.setIfInBounds_toArray, List.set_cons_succ, List.set_cons_zero]))
        | ((with_reducible apply mo_put); exact rfl; exact rfl; infer_instance; infer_instance; infer_instance; infer_instance; (try simp only [Act.put, List.setIfInBounds_toArray, List.set_cons_succ, List.set_cons_zero]))
        | ((with_reducible apply mo_alloc); infer_instance; infer_instance; intro _; (try simp only [Act.put, List.setIfInBounds_toArray, List.set_cons_succ, List.set_cons_zero]))
        | ((with_reducible apply mo_three); (decide); (decide); infer_instance; infer_instance; infer_instance; intro _ _ _; (try simp only [Act.put, List.setIfInBounds_toArray, List.set_cons_succ, List.set_cons_zero]))
        | ((with_reducible apply mo_four); (decide); (decide); infer_instance; infer_instance; infer_instance; infer_instance; intro _ _ _ _; (try simp only [Act.put, List.setIfInBounds_toArray, List.set_cons_succ, List.set_cons_zero]))
        | ((with_reducible apply mo_two); infer_instance; infer_instance; (decide); intro _ _; (try simp only [Act.put, List.setIfInBounds_toArray, List.set_cons_succ, List.set_cons_zero]))
        | ((with_reducible apply mo_load); infer_instance; exact rfl; infer_instance; infer_instance; (try simp only [Act.put, List.setIfInBounds_toArray, List.set_cons_succ, List.set_cons_zero]))
        | ((with_reducible apply mo_cell); infer_instance; exact rfl; infer_instance; infer_instance; (try simp only [Act.put, List.setIfInBounds_toArray, List.set_cons_succ, List.set_cons_zero]))
        | ((with_reducible apply mo_value); infer_instance; (intro _; go_simp; try exact rfl); (try simp only [Act.put, List.setIfInBounds_toArray, List.set_cons_succ, List.set_cons_zero])))
      refine mm_nil fun u7 => ?_
      go_wp2_with (first
        | ((with_reducible refine ls_skip ?_ ?_); (exact rfl); (try simp only [Act.put, List.setIfInBounds_toArray, List.set_cons_succ, List.set_cons_zero]))
        | ((with_reducible refine ck_alloc ?_); refine ls_alloc inferInstance fun _ _ => ?_)
        | ((with_reducible refine ck_load ?_); first | refine ls_load rfl inferInstance inferInstance ?_ | refine ls_cell rfl inferInstance inferInstance ?_)
        | ((with_reducible refine ck_gload ?_); first | refine lsg_load rfl rfl inferInstance inferInstance ?_ | refine lsg_cell rfl rfl inferInstance inferInstance ?_)
        | ((with_reducible refine ck_store ?_); refine ls_store rfl rfl inferInstance inferInstance inferInstance fun _ => ?_)
        | ((with_reducible refine ck_build (t := 37) (xs := #[(0, _)]) ?_); refine ls_W1 rfl HB1 ?_)
        | ((with_reducible refine ck_build (t := 23) (xs := #[]) ?_); refine ls_Pt_ ?_)
        | ((with_reducible refine ck_gbuild (t := 23) (xs := #[]) ?_); refine lsg_Pt_ rfl ?_))
      refine region (by kernel_rfl) (by kernel_rfl) fun _ => ?_
      refine QQ.out ?_
      repeat (first
        | ((with_reducible apply qq_skip); (exact rfl); (try simp only [Act.put, List.setIfInBounds_toArray, List.set_cons_succ, List.set_cons_zero]))
        | ((with_reducible apply qq_load); exact rfl; infer_instance; infer_instance; exact rfl; (try simp only [Act.put, List.setIfInBounds_toArray, List.set_cons_succ, List.set_cons_zero]))
        | ((with_reducible apply qq_cell); exact rfl; infer_instance; infer_instance; exact rfl; (try simp only [Act.put, List.setIfInBounds_toArray, List.set_cons_succ, List.set_cons_zero]))
        | ((with_reducible apply qq_value); (intro _; go_simp; try exact rfl); exact rfl; (try simp only [Act.put, List.setIfInBounds_toArray, List.set_cons_succ, List.set_cons_zero])))
      refine qq_nil ?_
      rintro _ ⟨u8, rfl⟩
      go_wp2_with (first
        | ((with_reducible refine ls_skip ?_ ?_); (exact rfl); (try simp only [Act.put, List.setIfInBounds_toArray, List.set_cons_succ, List.set_cons_zero]))
        | ((with_reducible refine ck_alloc ?_); refine ls_alloc inferInstance fun _ _ => ?_)
        | ((with_reducible refine ck_load ?_); first | refine ls_load rfl inferInstance inferInstance ?_ | refine ls_cell rfl inferInstance inferInstance ?_)
        | ((with_reducible refine ck_gload ?_); first | refine lsg_load rfl rfl inferInstance inferInstance ?_ | refine lsg_cell rfl rfl inferInstance inferInstance ?_)
        | ((with_reducible refine ck_store ?_); refine ls_store rfl rfl inferInstance inferInstance inferInstance fun _ => ?_)
        | (go_at_call 6; (with_reducible refine (HK.out _).mono ?_); rintro e w' ⟨rfl, hb'⟩; obtain ⟨_, rfl⟩ := KW.go _ hb'; clear hb'))
      refine region_mixS [.take 0, .take 1, .take 2, .take 3, .take 4, .take 5, .take 6, .take 7, .take 8, .take 9, .take 10, .take 11, .take 12, .take 13, .take 14, .take 15, .take 16, .take 17, .take 18, .sole 19, .sole 20] _ (Sub.both (h := Sub.both (h := Sub.both (h := Sub.both (h := Sub.both (h := Sub.both (h := Sub.both (h := Sub.both (h := Sub.nil))))))))) (by kernel_rfl) (by kernel_rfl) ?_
      simp only [picksM, Mv.pick, List.filterMap_cons, List.filterMap_nil, List.getElem?_cons_zero, List.getElem?_cons_succ, Option.map_some]
      refine MM.out ?_
      repeat (first
        | ((with_reducible apply mm_load); exact rfl; infer_instance; infer_instance; (try simp only [Act.put, List.setIfInBounds_toArray, List.set_cons_succ, List.set_cons_zero]))
        | ((with_reducible apply mm_cell); exact rfl; infer_instance; infer_instance; (try simp only [Act.put, List.setIfInBounds_toArray, List.set_cons_succ, List.set_cons_zero]))
        | ((with_reducible apply mm_Ratio); exact rfl; exact rfl; (try simp only [Act.put, List.setIfInBounds_toArray, List.set_cons_succ, List.set_cons_zero]))
        | ((with_reducible apply mm_callf (f := 13)); (intro _; go_simp; try exact rfl); (with_reducible exact fun _ u => Q1.out _); (try simp only [Act.put, List.setIfInBounds_toArray, List.set_cons_succ, List.set_cons_zero]))
        | ((with_reducible apply mo_callf (f := 13)); infer_instance; (intro _; go_simp; try exact rfl); (with_reducible exact fun u => Q1.out _); (try simp only [Act.put, List.setIfInBounds_toArray, List.set_cons_succ, List.set_cons_zero]))
        | ((with_reducible apply mm_callf (f := 14)); (intro _; go_simp; try exact rfl); (with_reducible exact fun _ u => Q3.out _); (try simp only [Act.put, List.setIfInBounds_toArray, List.set_cons_succ, List.set_cons_zero]))
        | ((with_reducible apply mo_callf (f := 14)); infer_instance; (intro _; go_simp; try exact rfl); (with_reducible exact fun u => Q3.out _); (try simp only [Act.put, List.setIfInBounds_toArray, List.set_cons_succ, List.set_cons_zero]))
        | ((with_reducible apply mm_callf (f := 15)); (intro _; go_simp; try exact rfl); (with_reducible exact fun _ u => Q5.out _); (try simp only [Act.put, List.setIfInBounds_toArray, List.set_cons_succ, List.set_cons_zero]))
        | ((with_reducible apply mo_callf (f := 15)); infer_instance; (intro _; go_simp; try exact rfl); (with_reducible exact fun u => Q5.out _); (try simp only [Act.put, List.setIfInBounds_toArray, List.set_cons_succ, List.set_cons_zero]))
        | ((with_reducible apply mm_value); (intro _; go_simp; try exact rfl); (try simp only [Act.put, List.setIfInBounds_toArray, List.set_cons_succ, List.set_cons_zero]))
        | ((with_reducible apply mo_store); exact rfl; exact rfl; infer_instance; infer_instance; infer_instance; infer_instance; (try simp only [Act.put, List.setIfInBounds_toArray, List.set_cons_succ, List.set_cons_zero]))
        | ((with_reducible apply mo_put); exact rfl; exact rfl; infer_instance; infer_instance; infer_instance; infer_instance; (try simp only [Act.put, List.setIfInBounds_toArray, List.set_cons_succ, List.set_cons_zero]))
        | ((with_reducible apply mo_alloc); infer_instance; infer_instance; intro _; (try simp only [Act.put, List.setIfInBounds_toArray, List.set_cons_succ, List.set_cons_zero]))
        | ((with_reducible apply mo_three); (decide); (decide); infer_instance; infer_instance; infer_instance; intro _ _ _; (try simp only [Act.put, List.setIfInBounds_toArray, List.set_cons_succ, List.set_cons_zero]))
        | ((with_reducible apply mo_four); (decide); (decide); infer_instance; infer_instance; infer_instance; infer_instance; intro _ _ _ _; (try simp only [Act.put, List.setIfInBounds_toArray, List.set_cons_succ, List.set_cons_zero]))
        | ((with_reducible apply mo_two); infer_instance; infer_instance; (decide); intro _ _; (try simp only [Act.put, List.setIfInBounds_toArray, List.set_cons_succ, List.set_cons_zero]))
        | ((with_reducible apply mo_load); infer_instance; exact rfl; infer_instance; infer_instance; (try simp only [Act.put, List.setIfInBounds_toArray, List.set_cons_succ, List.set_cons_zero]))
        | ((with_reducible apply mo_cell); infer_instance; exact rfl; infer_instance; infer_instance; (try simp only [Act.put, List.setIfInBounds_toArray, List.set_cons_succ, List.set_cons_zero]))
        | ((with_reducible apply mo_value); infer_instance; (intro _; go_simp; try exact rfl); (try simp only [Act.put, List.setIfInBounds_toArray, List.set_cons_succ, List.set_cons_zero])))
      refine mm_nil fun u9 => ?_
      go_wp2_with (fail)
      refine region_mixS [.take 0, .take 1, .take 2, .take 3, .take 4, .take 5, .take 6, .take 7, .take 8, .take 9, .take 10, .take 11, .take 12, .take 13, .take 14, .take 15, .take 16, .take 17, .take 18, .sole 19, .sole 20] _ (Sub.both (h := Sub.both (h := Sub.both (h := Sub.both (h := Sub.both (h := Sub.both (h := Sub.both (h := Sub.both (h := Sub.both (h := Sub.nil)))))))))) (by kernel_rfl) (by kernel_rfl) ?_
      simp only [picksM, Mv.pick, List.filterMap_cons, List.filterMap_nil, List.getElem?_cons_zero, List.getElem?_cons_succ, Option.map_some]
      refine MM.out ?_
      repeat (first
        | ((with_reducible apply mm_load); exact rfl; infer_instance; infer_instance; (try simp only [Act.put, List.setIfInBounds_toArray, List.set_cons_succ, List.set_cons_zero]))
        | ((with_reducible apply mm_cell); exact rfl; infer_instance; infer_instance; (try simp only [Act.put, List.setIfInBounds_toArray, List.set_cons_succ, List.set_cons_zero]))
        | ((with_reducible apply mm_Ratio); exact rfl; exact rfl; (try simp only [Act.put, List.setIfInBounds_toArray, List.set_cons_succ, List.set_cons_zero]))
        | ((with_reducible apply mm_callf (f := 13)); (intro _; go_simp; try exact rfl); (with_reducible exact fun _ u => Q2.out _); (try simp only [Act.put, List.setIfInBounds_toArray, List.set_cons_succ, List.set_cons_zero]))
        | ((with_reducible apply mo_callf (f := 13)); infer_instance; (intro _; go_simp; try exact rfl); (with_reducible exact fun u => Q2.out _); (try simp only [Act.put, List.setIfInBounds_toArray, List.set_cons_succ, List.set_cons_zero]))
        | ((with_reducible apply mm_callf (f := 14)); (intro _; go_simp; try exact rfl); (with_reducible exact fun _ u => Q4.out _); (try simp only [Act.put, List.setIfInBounds_toArray, List.set_cons_succ, List.set_cons_zero]))
        | ((with_reducible apply mo_callf (f := 14)); infer_instance; (intro _; go_simp; try exact rfl); (with_reducible exact fun u => Q4.out _); (try simp only [Act.put, List.setIfInBounds_toArray, List.set_cons_succ, List.set_cons_zero]))
        | ((with_reducible apply mm_callf (f := 15)); (intro _; go_simp; try exact rfl); (with_reducible exact fun _ u => Q6.out _); (try simp only [Act.put, List.setIfInBounds_toArray, List.set_cons_succ, List.set_cons_zero]))
        | ((with_reducible apply mo_callf (f := 15)); infer_instance; (intro _; go_simp; try exact rfl); (with_reducible exact fun u => Q6.out _); (try simp only [Act.put, List.setIfInBounds_toArray, List.set_cons_succ, List.set_cons_zero]))
        | ((with_reducible apply mm_value); (intro _; go_simp; try exact rfl); (try simp only [Act.put, List.setIfInBounds_toArray, List.set_cons_succ, List.set_cons_zero]))
        | ((with_reducible apply mo_store); exact rfl; exact rfl; infer_instance; infer_instance; infer_instance; infer_instance; (try simp only [Act.put, List.setIfInBounds_toArray, List.set_cons_succ, List.set_cons_zero]))
        | ((with_reducible apply mo_put); exact rfl; exact rfl; infer_instance; infer_instance; infer_instance; infer_instance; (try simp only [Act.put, List.setIfInBounds_toArray, List.set_cons_succ, List.set_cons_zero]))
        | ((with_reducible apply mo_alloc); infer_instance; infer_instance; intro _; (try simp only [Act.put, List.setIfInBounds_toArray, List.set_cons_succ, List.set_cons_zero]))
        | ((with_reducible apply mo_three); (decide); (decide); infer_instance; infer_instance; infer_instance; intro _ _ _; (try simp only [Act.put, List.setIfInBounds_toArray, List.set_cons_succ, List.set_cons_zero]))
        | ((with_reducible apply mo_four); (decide); (decide); infer_instance; infer_instance; infer_instance; infer_instance; intro _ _ _ _; (try simp only [Act.put, List.setIfInBounds_toArray, List.set_cons_succ, List.set_cons_zero]))
        | ((with_reducible apply mo_two); infer_instance; infer_instance; (decide); intro _ _; (try simp only [Act.put, List.setIfInBounds_toArray, List.set_cons_succ, List.set_cons_zero]))
        | ((with_reducible apply mo_load); infer_instance; exact rfl; infer_instance; infer_instance; (try simp only [Act.put, List.setIfInBounds_toArray, List.set_cons_succ, List.set_cons_zero]))
        | ((with_reducible apply mo_cell); infer_instance; exact rfl; infer_instance; infer_instance; (try simp only [Act.put, List.setIfInBounds_toArray, List.set_cons_succ, List.set_cons_zero]))
        | ((with_reducible apply mo_value); infer_instance; (intro _; go_simp; try exact rfl); (try simp only [Act.put, List.setIfInBounds_toArray, List.set_cons_succ, List.set_cons_zero])))
      refine mm_nil fun u10 => ?_
      go_wp2_with (first
        | ((with_reducible refine ls_skip ?_ ?_); (exact rfl); (try simp only [Act.put, List.setIfInBounds_toArray, List.set_cons_succ, List.set_cons_zero]))
        | ((with_reducible refine ck_load ?_); first | refine ls_load rfl inferInstance inferInstance ?_ | refine ls_cell rfl inferInstance inferInstance ?_)
        | ((with_reducible refine ck_gload ?_); first | refine lsg_load rfl rfl inferInstance inferInstance ?_ | refine lsg_cell rfl rfl inferInstance inferInstance ?_)
        | (go_at_call 9; (with_reducible refine (HA.out _).mono ?_); rintro e w' ⟨rfl, hb'⟩; obtain ⟨_, rfl⟩ := KW.go _ hb'; clear hb'))
      go_ret
      exact ⟨rfl, KW.below _⟩
    cases o2
    · rw [Bool.true_and, if_neg (by decide)] at HW
      replace HW := Lib.hid HW
      clear F1 F2
      refine enter fun u => ?_
      go_enter Try.func5, Try.ntmps5
      go_wp2_with (first
        | ((with_reducible refine ls_skip ?_ ?_); (exact rfl); (try simp only [Act.put, List.setIfInBounds_toArray, List.set_cons_succ, List.set_cons_zero]))
        | ((with_reducible refine ck_box ?_); refine list_box rfl fun _ _ => ?_)
        | ((with_reducible refine ck_alloc ?_); refine ls_alloc inferInstance fun _ _ => ?_)
        | ((with_reducible refine ck_load ?_); first | refine ls_load rfl inferInstance inferInstance ?_ | refine ls_cell rfl inferInstance inferInstance ?_)
        | ((with_reducible refine ck_gload ?_); first | refine lsg_load rfl rfl inferInstance inferInstance ?_ | refine lsg_cell rfl rfl inferInstance inferInstance ?_)
        | ((with_reducible refine ck_store ?_); refine ls_store rfl rfl inferInstance inferInstance inferInstance fun _ => ?_)
        | (go_at_call 11; (with_reducible refine (HW.out _).mono ?_); rintro e w' ⟨rfl, hb'⟩; obtain ⟨_, rfl⟩ := KW.go _ hb'; clear hb')
        | (go_at_call 12; (with_reducible refine (HL.out _).mono ?_); rintro e w' ⟨rfl, hb'⟩; obtain ⟨_, rfl⟩ := KW.go _ hb'; clear hb'))
      refine region_mixS [.take 0, .take 1, .take 2, .take 3, .take 4, .take 5, .take 6, .take 7, .take 8, .take 9, .take 10, .take 11, .take 12, .take 13, .take 14, .take 15, .take 16, .take 17, .take 18, .take 19, .take 20, .take 21, .take 22, .take 23, .two 24 25, .sole 26, .sole 27] _ (Sub.both (h := Sub.both (h := Sub.both (h := Sub.both (h := Sub.nil))))) (by kernel_rfl) (by kernel_rfl) ?_
      simp only [picksM, Mv.pick, List.filterMap_cons, List.filterMap_nil, List.getElem?_cons_zero, List.getElem?_cons_succ, Option.map_some]
      refine MM.out ?_
      repeat (first
        | ((with_reducible apply mm_load); exact rfl; infer_instance; infer_instance; (try simp only [Act.put, List.setIfInBounds_toArray, List.set_cons_succ, List.set_cons_zero]))
        | ((with_reducible apply mm_cell); exact rfl; infer_instance; infer_instance; (try simp only [Act.put, List.setIfInBounds_toArray, List.set_cons_succ, List.set_cons_zero]))
        | ((with_reducible apply mm_callf (f := 13)); (intro _; go_simp; try exact rfl); (with_reducible exact fun _ u => P1.out _); (try simp only [Act.put, List.setIfInBounds_toArray, List.set_cons_succ, List.set_cons_zero]))
        | ((with_reducible apply mo_callf (f := 13)); infer_instance; (intro _; go_simp; try exact rfl); (with_reducible exact fun u => P1.out _); (try simp only [Act.put, List.setIfInBounds_toArray, List.set_cons_succ, List.set_cons_zero]))
        | ((with_reducible apply mm_callf (f := 13)); (intro _; go_simp; try exact rfl); (with_reducible exact fun _ u => P2.out _); (try simp only [Act.put, List.setIfInBounds_toArray, List.set_cons_succ, List.set_cons_zero]))
        | ((with_reducible apply mo_callf (f := 13)); infer_instance; (intro _; go_simp; try exact rfl); (with_reducible exact fun u => P2.out _); (try simp only [Act.put, List.setIfInBounds_toArray, List.set_cons_succ, List.set_cons_zero]))
        | ((with_reducible apply mm_value); (intro _; go_simp; try exact rfl); (try simp only [Act.put, List.setIfInBounds_toArray, List.set_cons_succ, List.set_cons_zero]))
        | ((with_reducible apply mo_store); exact rfl; exact rfl; infer_instance; infer_instance; infer_instance; infer_instance; (try simp only [Act.put, List.setIfInBounds_toArray, List.set_cons_succ, List.set_cons_zero]))
        | ((with_reducible apply mo_put); exact rfl; exact rfl; infer_instance; infer_instance; infer_instance; infer_instance; (try simp only [Act.put, List.setIfInBounds_toArray, List.set_cons_succ, List.set_cons_zero]))
        | ((with_reducible apply mo_alloc); infer_instance; infer_instance; intro _; (try simp only [Act.put, List.setIfInBounds_toArray, List.set_cons_succ, List.set_cons_zero]))
        | ((with_reducible apply mo_three); (decide); (decide); infer_instance; infer_instance; infer_instance; intro _ _ _; (try simp only [Act.put, List.setIfInBounds_toArray, List.set_cons_succ, List.set_cons_zero]))
        | ((with_reducible apply mo_four); (decide); (decide); infer_instance; infer_instance; infer_instance; infer_instance; intro _ _ _ _; (try simp only [Act.put, List.setIfInBounds_toArray, List.set_cons_succ, List.set_cons_zero]))
        | ((with_reducible apply mo_two); infer_instance; infer_instance; (decide); intro _ _; (try simp only [Act.put, List.setIfInBounds_toArray, List.set_cons_succ, List.set_cons_zero]))
        | ((with_reducible apply mo_load); infer_instance; exact rfl; infer_instance; infer_instance; (try simp only [Act.put, List.setIfInBounds_toArray, List.set_cons_succ, List.set_cons_zero]))
        | ((with_reducible apply mo_cell); infer_instance; exact rfl; infer_instance; infer_instance; (try simp only [Act.put, List.setIfInBounds_toArray, List.set_cons_succ, List.set_cons_zero]))
        | ((with_reducible apply mo_value); infer_instance; (intro _; go_simp; try exact rfl); (try simp only [Act.put, List.setIfInBounds_toArray, List.set_cons_succ, List.set_cons_zero])))
      refine mm_nil fun u7 => ?_
      go_wp2_with (first
        | ((with_reducible refine ls_skip ?_ ?_); (exact rfl); (try simp only [Act.put, List.setIfInBounds_toArray, List.set_cons_succ, List.set_cons_zero]))
        | ((with_reducible refine ck_alloc ?_); refine ls_alloc inferInstance fun _ _ => ?_)
        | ((with_reducible refine ck_load ?_); first | refine ls_load rfl inferInstance inferInstance ?_ | refine ls_cell rfl inferInstance inferInstance ?_)
        | ((with_reducible refine ck_gload ?_); first | refine lsg_load rfl rfl inferInstance inferInstance ?_ | refine lsg_cell rfl rfl inferInstance inferInstance ?_)
        | ((with_reducible refine ck_store ?_); refine ls_store rfl rfl inferInstance inferInstance inferInstance fun _ => ?_)
        | ((with_reducible refine ck_build (t := 37) (xs := #[(0, _)]) ?_); refine ls_W1 rfl HB1 ?_)
        | ((with_reducible refine ck_build (t := 23) (xs := #[]) ?_); refine ls_Pt_ ?_)
        | ((with_reducible refine ck_gbuild (t := 23) (xs := #[]) ?_); refine lsg_Pt_ rfl ?_))
      refine region (by kernel_rfl) (by kernel_rfl) fun _ => ?_
      refine QQ.out ?_
      repeat (first
        | ((with_reducible apply qq_skip); (exact rfl); (try simp only [Act.put, List.setIfInBounds_toArray, List.set_cons_succ, List.set_cons_zero]))
        | ((with_reducible apply qq_load); exact rfl; infer_instance; infer_instance; exact rfl; (try simp only [Act.put, List.setIfInBounds_toArray, List.set_cons_succ, List.set_cons_zero]))
        | ((with_reducible apply qq_cell); exact rfl; infer_instance; infer_instance; exact rfl; (try simp only [Act.put, List.setIfInBounds_toArray, List.set_cons_succ, List.set_cons_zero]))
        | ((with_reducible apply qq_value); (intro _; go_simp; try exact rfl); exact rfl; (try simp only [Act.put, List.setIfInBounds_toArray, List.set_cons_succ, List.set_cons_zero])))
      refine qq_nil ?_
      rintro _ ⟨u8, rfl⟩
      go_wp2_with (first
        | ((with_reducible refine ls_skip ?_ ?_); (exact rfl); (try simp only [Act.put, List.setIfInBounds_toArray, List.set_cons_succ, List.set_cons_zero]))
        | ((with_reducible refine ck_alloc ?_); refine ls_alloc inferInstance fun _ _ => ?_)
        | ((with_reducible refine ck_load ?_); first | refine ls_load rfl inferInstance inferInstance ?_ | refine ls_cell rfl inferInstance inferInstance ?_)
        | ((with_reducible refine ck_gload ?_); first | refine lsg_load rfl rfl inferInstance inferInstance ?_ | refine lsg_cell rfl rfl inferInstance inferInstance ?_)
        | ((with_reducible refine ck_store ?_); refine ls_store rfl rfl inferInstance inferInstance inferInstance fun _ => ?_)
        | (go_at_call 6; (with_reducible refine (HK.out _).mono ?_); rintro e w' ⟨rfl, hb'⟩; obtain ⟨_, rfl⟩ := KW.go _ hb'; clear hb'))
      refine region_mixS [.take 0, .take 1, .take 2, .take 3, .take 4, .take 5, .take 6, .take 7, .take 8, .take 9, .take 10, .take 11, .take 12, .take 13, .take 14, .take 15, .take 16, .take 17, .take 18, .sole 19, .sole 20] _ (Sub.both (h := Sub.both (h := Sub.both (h := Sub.both (h := Sub.both (h := Sub.both (h := Sub.both (h := Sub.both (h := Sub.nil))))))))) (by kernel_rfl) (by kernel_rfl) ?_
      simp only [picksM, Mv.pick, List.filterMap_cons, List.filterMap_nil, List.getElem?_cons_zero, List.getElem?_cons_succ, Option.map_some]
      refine MM.out ?_
      repeat (first
        | ((with_reducible apply mm_load); exact rfl; infer_instance; infer_instance; (try simp only [Act.put, List.setIfInBounds_toArray, List.set_cons_succ, List.set_cons_zero]))
        | ((with_reducible apply mm_cell); exact rfl; infer_instance; infer_instance; (try simp only [Act.put, List.setIfInBounds_toArray, List.set_cons_succ, List.set_cons_zero]))
        | ((with_reducible apply mm_Ratio); exact rfl; exact rfl; (try simp only [Act.put, List.setIfInBounds_toArray, List.set_cons_succ, List.set_cons_zero]))
        | ((with_reducible apply mm_callf (f := 13)); (intro _; go_simp; try exact rfl); (with_reducible exact fun _ u => Q1.out _); (try simp only [Act.put, List.setIfInBounds_toArray, List.set_cons_succ, List.set_cons_zero]))
        | ((with_reducible apply mo_callf (f := 13)); infer_instance; (intro _; go_simp; try exact rfl); (with_reducible exact fun u => Q1.out _); (try simp only [Act.put, List.setIfInBounds_toArray, List.set_cons_succ, List.set_cons_zero]))
        | ((with_reducible apply mm_callf (f := 14)); (intro _; go_simp; try exact rfl); (with_reducible exact fun _ u => Q3.out _); (try simp only [Act.put, List.setIfInBounds_toArray, List.set_cons_succ, List.set_cons_zero]))
        | ((with_reducible apply mo_callf (f := 14)); infer_instance; (intro _; go_simp; try exact rfl); (with_reducible exact fun u => Q3.out _); (try simp only [Act.put, List.setIfInBounds_toArray, List.set_cons_succ, List.set_cons_zero]))
        | ((with_reducible apply mm_callf (f := 15)); (intro _; go_simp; try exact rfl); (with_reducible exact fun _ u => Q5.out _); (try simp only [Act.put, List.setIfInBounds_toArray, List.set_cons_succ, List.set_cons_zero]))
        | ((with_reducible apply mo_callf (f := 15)); infer_instance; (intro _; go_simp; try exact rfl); (with_reducible exact fun u => Q5.out _); (try simp only [Act.put, List.setIfInBounds_toArray, List.set_cons_succ, List.set_cons_zero]))
        | ((with_reducible apply mm_value); (intro _; go_simp; try exact rfl); (try simp only [Act.put, List.setIfInBounds_toArray, List.set_cons_succ, List.set_cons_zero]))
        | ((with_reducible apply mo_store); exact rfl; exact rfl; infer_instance; infer_instance; infer_instance; infer_instance; (try simp only [Act.put, List.setIfInBounds_toArray, List.set_cons_succ, List.set_cons_zero]))
        | ((with_reducible apply mo_put); exact rfl; exact rfl; infer_instance; infer_instance; infer_instance; infer_instance; (try simp only [Act.put, List.setIfInBounds_toArray, List.set_cons_succ, List.set_cons_zero]))
        | ((with_reducible apply mo_alloc); infer_instance; infer_instance; intro _; (try simp only [Act.put, List.setIfInBounds_toArray, List.set_cons_succ, List.set_cons_zero]))
        | ((with_reducible apply mo_three); (decide); (decide); infer_instance; infer_instance; infer_instance; intro _ _ _; (try simp only [Act.put, List.setIfInBounds_toArray, List.set_cons_succ, List.set_cons_zero]))
        | ((with_reducible apply mo_four); (decide); (decide); infer_instance; infer_instance; infer_instance; infer_instance; intro _ _ _ _; (try simp only [Act.put, List.setIfInBounds_toArray, List.set_cons_succ, List.set_cons_zero]))
        | ((with_reducible apply mo_two); infer_instance; infer_instance; (decide); intro _ _; (try simp only [Act.put, List.setIfInBounds_toArray, List.set_cons_succ, List.set_cons_zero]))
        | ((with_reducible apply mo_load); infer_instance; exact rfl; infer_instance; infer_instance; (try simp only [Act.put, List.setIfInBounds_toArray, List.set_cons_succ, List.set_cons_zero]))
        | ((with_reducible apply mo_cell); infer_instance; exact rfl; infer_instance; infer_instance; (try simp only [Act.put, List.setIfInBounds_toArray, List.set_cons_succ, List.set_cons_zero]))
        | ((with_reducible apply mo_value); infer_instance; (intro _; go_simp; try exact rfl); (try simp only [Act.put, List.setIfInBounds_toArray, List.set_cons_succ, List.set_cons_zero])))
      refine mm_nil fun u9 => ?_
      go_wp2_with (fail)
      refine region_mixS [.take 0, .take 1, .take 2, .take 3, .take 4, .take 5, .take 6, .take 7, .take 8, .take 9, .take 10, .take 11, .take 12, .take 13, .take 14, .take 15, .take 16, .take 17, .take 18, .sole 19, .sole 20] _ (Sub.both (h := Sub.both (h := Sub.both (h := Sub.both (h := Sub.both (h := Sub.both (h := Sub.both (h := Sub.both (h := Sub.both (h := Sub.nil)))))))))) (by kernel_rfl) (by kernel_rfl) ?_
      simp only [picksM, Mv.pick, List.filterMap_cons, List.filterMap_nil, List.getElem?_cons_zero, List.getElem?_cons_succ, Option.map_some]
      refine MM.out ?_
      repeat (first
        | ((with_reducible apply mm_load); exact rfl; infer_instance; infer_instance; (try simp only [Act.put, List.setIfInBounds_toArray, List.set_cons_succ, List.set_cons_zero]))
        | ((with_reducible apply mm_cell); exact rfl; infer_instance; infer_instance; (try simp only [Act.put, List.setIfInBounds_toArray, List.set_cons_succ, List.set_cons_zero]))
        | ((with_reducible apply mm_Ratio); exact rfl; exact rfl; (try simp only [Act.put, List.setIfInBounds_toArray, List.set_cons_succ, List.set_cons_zero]))
        | ((with_reducible apply mm_callf (f := 13)); (intro _; go_simp; try exact rfl); (with_reducible exact fun _ u => Q2.out _); (try simp only [Act.put, List.setIfInBounds_toArray, List.set_cons_succ, List.set_cons_zero]))
        | ((with_reducible apply mo_callf (f := 13)); infer_instance; (intro _; go_simp; try exact rfl); (with_reducible exact fun u => Q2.out _); (try simp only [Act.put, List.setIfInBounds_toArray, List.set_cons_succ, List.set_cons_zero]))
        | ((with_reducible apply mm_callf (f := 14)); (intro _; go_simp; try exact rfl); (with_reducible exact fun _ u => Q4.out _); (try simp only [Act.put, List.setIfInBounds_toArray, List.set_cons_succ, List.set_cons_zero]))
        | ((with_reducible apply mo_callf (f := 14)); infer_instance; (intro _; go_simp; try exact rfl); (with_reducible exact fun u => Q4.out _); (try simp only [Act.put, List.setIfInBounds_toArray, List.set_cons_succ, List.set_cons_zero]))
        | ((with_reducible apply mm_callf (f := 15)); (intro _; go_simp; try exact rfl); (with_reducible exact fun _ u => Q6.out _); (try simp only [Act.put, List.setIfInBounds_toArray, List.set_cons_succ, List.set_cons_zero]))
        | ((with_reducible apply mo_callf (f := 15)); infer_instance; (intro _; go_simp; try exact rfl); (with_reducible exact fun u => Q6.out _); (try simp only [Act.put, List.setIfInBounds_toArray, List.set_cons_succ, List.set_cons_zero]))
        | ((with_reducible apply mm_value); (intro _; go_simp; try exact rfl); (try simp only [Act.put, List.setIfInBounds_toArray, List.set_cons_succ, List.set_cons_zero]))
        | ((with_reducible apply mo_store); exact rfl; exact rfl; infer_instance; infer_instance; infer_instance; infer_instance; (try simp only [Act.put, List.setIfInBounds_toArray, List.set_cons_succ, List.set_cons_zero]))
        | ((with_reducible apply mo_put); exact rfl; exact rfl; infer_instance; infer_instance; infer_instance; infer_instance; (try simp only [Act.put, List.setIfInBounds_toArray, List.set_cons_succ, List.set_cons_zero]))
        | ((with_reducible apply mo_alloc); infer_instance; infer_instance; intro _; (try simp only [Act.put, List.setIfInBounds_toArray, List.set_cons_succ, List.set_cons_zero]))
        | ((with_reducible apply mo_three); (decide); (decide); infer_instance; infer_instance; infer_instance; intro _ _ _; (try simp only [Act.put, List.setIfInBounds_toArray, List.set_cons_succ, List.set_cons_zero]))
        | ((with_reducible apply mo_four); (decide); (decide); infer_instance; infer_instance; infer_instance; infer_instance; intro _ _ _ _; (try simp only [Act.put, List.setIfInBounds_toArray, List.set_cons_succ, List.set_cons_zero]))
        | ((with_reducible apply mo_two); infer_instance; infer_instance; (decide); intro _ _; (try simp only [Act.put, List.setIfInBounds_toArray, List.set_cons_succ, List.set_cons_zero]))
        | ((with_reducible apply mo_load); infer_instance; exact rfl; infer_instance; infer_instance; (try simp only [Act.put, List.setIfInBounds_toArray, List.set_cons_succ, List.set_cons_zero]))
        | ((with_reducible apply mo_cell); infer_instance; exact rfl; infer_instance; infer_instance; (try simp only [Act.put, List.setIfInBounds_toArray, List.set_cons_succ, List.set_cons_zero]))
        | ((with_reducible apply mo_value); infer_instance; (intro _; go_simp; try exact rfl); (try simp only [Act.put, List.setIfInBounds_toArray, List.set_cons_succ, List.set_cons_zero])))
      refine mm_nil fun u10 => ?_
      go_wp2_with (first
        | ((with_reducible refine ls_skip ?_ ?_); (exact rfl); (try simp only [Act.put, List.setIfInBounds_toArray, List.set_cons_succ, List.set_cons_zero]))
        | ((with_reducible refine ck_load ?_); first | refine ls_load rfl inferInstance inferInstance ?_ | refine ls_cell rfl inferInstance inferInstance ?_)
        | ((with_reducible refine ck_gload ?_); first | refine lsg_load rfl rfl inferInstance inferInstance ?_ | refine lsg_cell rfl rfl inferInstance inferInstance ?_)
        | (go_at_call 9; (with_reducible refine (HA.out _).mono ?_); rintro e w' ⟨rfl, hb'⟩; obtain ⟨_, rfl⟩ := KW.go _ hb'; clear hb'))
      go_ret
      exact ⟨rfl, KW.below _⟩
    · rw [Bool.true_and, if_pos rfl] at HW
      replace HW := Lib.hid HW
      obtain ⟨f1, f2, f3⟩ := F1 rfl
      obtain ⟨f4, f5, f6⟩ := F2 rfl
      have O1 := fun w => SignW.rof_any lx f2 f3 w
      have O2 := fun w => SignW.rof_any ly f5 f6 w
      unfold nv at O1 O2
      clear F1 F2 f2 f3 f5 f6
      generalize ng lx = v5 at *
      generalize lx.natAbs = v6 at *
      generalize ng ly = v7 at *
      generalize ly.natAbs = v8 at *
      replace O1 := Lib.hid O1
      replace O2 := Lib.hid O2
      refine enter fun u => ?_
      go_enter Try.func5, Try.ntmps5
      go_wp2_with (first
        | ((with_reducible refine ls_skip ?_ ?_); (exact rfl); (try simp only [Act.put, List.setIfInBounds_toArray, List.set_cons_succ, List.set_cons_zero]))
        | ((with_reducible refine ck_box ?_); refine list_box rfl fun _ _ => ?_)
        | ((with_reducible refine ck_alloc ?_); refine ls_alloc inferInstance fun _ _ => ?_)
        | ((with_reducible refine ck_load ?_); first | refine ls_load rfl inferInstance inferInstance ?_ | refine ls_cell rfl inferInstance inferInstance ?_)
        | ((with_reducible refine ck_gload ?_); first | refine lsg_load rfl rfl inferInstance inferInstance ?_ | refine lsg_cell rfl rfl inferInstance inferInstance ?_)
        | ((with_reducible refine ck_store ?_); refine ls_store rfl rfl inferInstance inferInstance inferInstance fun _ => ?_)
        | (go_at_call 11; (with_reducible refine (HW.out _).mono ?_); rintro e w' ⟨rfl, hb'⟩; obtain ⟨_, rfl⟩ := KW.go _ hb'; clear hb')
        | (go_at_call 12; (with_reducible refine (HL.out _).mono ?_); rintro e w' ⟨rfl, hb'⟩; obtain ⟨_, rfl⟩ := KW.go _ hb'; clear hb'))
      refine region_mixS [.take 0, .take 1, .take 2, .take 3, .take 4, .take 5, .take 6, .take 7, .take 8, .take 9, .take 10, .take 11, .take 12, .take 13, .take 14, .take 15, .take 16, .take 17, .take 18, .take 19, .take 20, .take 21, .take 22, .take 23, .two 24 25, .sole 26, .sole 27] _ (Sub.both (h := Sub.both (h := Sub.both (h := Sub.both (h := Sub.nil))))) (by kernel_rfl) (by kernel_rfl) ?_
      simp only [picksM, Mv.pick, List.filterMap_cons, List.filterMap_nil, List.getElem?_cons_zero, List.getElem?_cons_succ, Option.map_some]
      refine MM.out ?_
      repeat (first
        | ((with_reducible apply mm_load); exact rfl; infer_instance; infer_instance; (try simp only [Act.put, List.setIfInBounds_toArray, List.set_cons_succ, List.set_cons_zero]))
        | ((with_reducible apply mm_cell); exact rfl; infer_instance; infer_instance; (try simp only [Act.put, List.setIfInBounds_toArray, List.set_cons_succ, List.set_cons_zero]))
        | ((with_reducible apply mm_callf (f := 13)); (intro _; go_simp; try exact rfl); (with_reducible exact fun _ u => P1.out _); (try simp only [Act.put, List.setIfInBounds_toArray, List.set_cons_succ, List.set_cons_zero]))
        | ((with_reducible apply mo_callf (f := 13)); infer_instance; (intro _; go_simp; try exact rfl); (with_reducible exact fun u => P1.out _); (try simp only [Act.put, List.setIfInBounds_toArray, List.set_cons_succ, List.set_cons_zero]))
        | ((with_reducible apply mm_callf (f := 13)); (intro _; go_simp; try exact rfl); (with_reducible exact fun _ u => P2.out _); (try simp only [Act.put, List.setIfInBounds_toArray, List.set_cons_succ, List.set_cons_zero]))
        | ((with_reducible apply mo_callf (f := 13)); infer_instance; (intro _; go_simp; try exact rfl); (with_reducible exact fun u => P2.out _); (try simp only [Act.put, List.setIfInBounds_toArray, List.set_cons_succ, List.set_cons_zero]))
        | ((with_reducible apply mm_value); (intro _; go_simp; try exact rfl); (try simp only [Act.put, List.setIfInBounds_toArray, List.set_cons_succ, List.set_cons_zero]))
        | ((with_reducible apply mo_store); exact rfl; exact rfl; infer_instance; infer_instance; infer_instance; infer_instance; (try simp only [Act.put, List.setIfInBounds_toArray, List.set_cons_succ, List.set_cons_zero]))
        | ((with_reducible apply mo_put); exact rfl; exact rfl; infer_instance; infer_instance; infer_instance; infer_instance; (try simp only [Act.put, List.setIfInBounds_toArray, List.set_cons_succ, List.set_cons_zero]))
        | ((with_reducible apply mo_alloc); infer_instance; infer_instance; intro _; (try simp only [Act.put, List.setIfInBounds_toArray, List.set_cons_succ, List.set_cons_zero]))
        | ((with_reducible apply mo_three); (decide); (decide); infer_instance; infer_instance; infer_instance; intro _ _ _; (try simp only [Act.put, List.setIfInBounds_toArray, List.set_cons_succ, List.set_cons_zero]))
        | ((with_reducible apply mo_four); (decide); (decide); infer_instance; infer_instance; infer_instance; infer_instance; intro _ _ _ _; (try simp only [Act.put, List.setIfInBounds_toArray, List.set_cons_succ, List.set_cons_zero]))
        | ((with_reducible apply mo_two); infer_instance; infer_instance; (decide); intro _ _; (try simp only [Act.put, List.setIfInBounds_toArray, List.set_cons_succ, List.set_cons_zero]))
        | ((with_reducible apply mo_load); infer_instance; exact rfl; infer_instance; infer_instance; (try simp only [Act.put, List.setIfInBounds_toArray, List.set_cons_succ, List.set_cons_zero]))
        | ((with_reducible apply mo_cell); infer_instance; exact rfl; infer_instance; infer_instance; (try simp only [Act.put, List.setIfInBounds_toArray, List.set_cons_succ, List.set_cons_zero]))
        | ((with_reducible apply mo_value); infer_instance; (intro _; go_simp; try exact rfl); (try simp only [Act.put, List.setIfInBounds_toArray, List.set_cons_succ, List.set_cons_zero])))
      refine mm_nil fun u7 => ?_
      go_wp2_with (first
        | ((with_reducible refine ls_skip ?_ ?_); (exact rfl); (try simp only [Act.put, List.setIfInBounds_toArray, List.set_cons_succ, List.set_cons_zero]))
        | ((with_reducible refine ck_alloc ?_); refine ls_alloc inferInstance fun _ _ => ?_)
        | ((with_reducible refine ck_load ?_); first | refine ls_load rfl inferInstance inferInstance ?_ | refine ls_cell rfl inferInstance inferInstance ?_)
        | ((with_reducible refine ck_gload ?_); first | refine lsg_load rfl rfl inferInstance inferInstance ?_ | refine lsg_cell rfl rfl inferInstance inferInstance ?_)
        | ((with_reducible refine ck_store ?_); refine ls_store rfl rfl inferInstance inferInstance inferInstance fun _ => ?_)
        | ((with_reducible refine ck_build (t := 37) (xs := #[(0, _)]) ?_); refine ls_W1 rfl HB1 ?_)
        | ((with_reducible refine ck_build (t := 23) (xs := #[]) ?_); refine ls_Pt_ ?_)
        | ((with_reducible refine ck_gbuild (t := 23) (xs := #[]) ?_); refine lsg_Pt_ rfl ?_))
      refine region (by kernel_rfl) (by kernel_rfl) fun _ => ?_
      refine QQ.out ?_
      repeat (first
        | ((with_reducible apply qq_skip); (exact rfl); (try simp only [Act.put, List.setIfInBounds_toArray, List.set_cons_succ, List.set_cons_zero]))
        | ((with_reducible apply qq_load); exact rfl; infer_instance; infer_instance; exact rfl; (try simp only [Act.put, List.setIfInBounds_toArray, List.set_cons_succ, List.set_cons_zero]))
        | ((with_reducible apply qq_cell); exact rfl; infer_instance; infer_instance; exact rfl; (try simp only [Act.put, List.setIfInBounds_toArray, List.set_cons_succ, List.set_cons_zero]))
        | ((with_reducible apply qq_callf (f := 14)); (intro _; go_simp; try exact rfl); (with_reducible exact fun u => O1.out _); exact rfl; (try simp only [Act.put, List.setIfInBounds_toArray, List.set_cons_succ, List.set_cons_zero]))
        | ((with_reducible apply qq_callf (f := 14)); (intro _; go_simp; try exact rfl); (with_reducible exact fun u => O2.out _); exact rfl; (try simp only [Act.put, List.setIfInBounds_toArray, List.set_cons_succ, List.set_cons_zero]))
        | ((with_reducible apply qq_value); (intro _; go_simp; try exact rfl); exact rfl; (try simp only [Act.put, List.setIfInBounds_toArray, List.set_cons_succ, List.set_cons_zero])))
      refine qq_nil ?_
      rintro _ ⟨u8, rfl⟩
      go_wp2_with (first
        | ((with_reducible refine ls_skip ?_ ?_); (exact rfl); (try simp only [Act.put, List.setIfInBounds_toArray, List.set_cons_succ, List.set_cons_zero]))
        | ((with_reducible refine ck_alloc ?_); refine ls_alloc inferInstance fun _ _ => ?_)
        | ((with_reducible refine ck_load ?_); first | refine ls_load rfl inferInstance inferInstance ?_ | refine ls_cell rfl inferInstance inferInstance ?_)
        | ((with_reducible refine ck_gload ?_); first | refine lsg_load rfl rfl inferInstance inferInstance ?_ | refine lsg_cell rfl rfl inferInstance inferInstance ?_)
        | ((with_reducible refine ck_store ?_); refine ls_store rfl rfl inferInstance inferInstance inferInstance fun _ => ?_)
        | (go_at_call 6; (with_reducible refine (HK.out _).mono ?_); rintro e w' ⟨rfl, hb'⟩; obtain ⟨_, rfl⟩ := KW.go _ hb'; clear hb'))
      refine region_mixS [.take 0, .take 1, .take 2, .take 3, .take 4, .take 5, .take 6, .take 7, .take 8, .take 9, .take 10, .take 11, .take 12, .take 13, .take 14, .take 15, .take 16, .take 17, .take 18, .sole 19, .sole 20] _ (Sub.both (h := Sub.both (h := Sub.both (h := Sub.both (h := Sub.both (h := Sub.both (h := Sub.both (h := Sub.both (h := Sub.nil))))))))) (by kernel_rfl) (by kernel_rfl) ?_
      simp only [picksM, Mv.pick, List.filterMap_cons, List.filterMap_nil, List.getElem?_cons_zero, List.getElem?_cons_succ, Option.map_some]
      refine MM.out ?_
      repeat (first
        | ((with_reducible apply mm_load); exact rfl; infer_instance; infer_instance; (try simp only [Act.put, List.setIfInBounds_toArray, List.set_cons_succ, List.set_cons_zero]))
        | ((with_reducible apply mm_cell); exact rfl; infer_instance; infer_instance; (try simp only [Act.put, List.setIfInBounds_toArray, List.set_cons_succ, List.set_cons_zero]))
        | ((with_reducible apply mm_Ratio); exact rfl; exact rfl; (try simp only [Act.put, List.setIfInBounds_toArray, List.set_cons_succ, List.set_cons_zero]))
        | ((with_reducible apply mm_callf (f := 13)); (intro _; go_simp; try exact rfl); (with_reducible exact fun _ u => Q1.out _); (try simp only [Act.put, List.setIfInBounds_toArray, List.set_cons_succ, List.set_cons_zero]))
        | ((with_reducible apply mo_callf (f := 13)); infer_instance; (intro _; go_simp; try exact rfl); (with_reducible exact fun u => Q1.out _); (try simp only [Act.put, List.setIfInBounds_toArray, List.set_cons_succ, List.set_cons_zero]))
        | ((with_reducible apply mm_callf (f := 14)); (intro _; go_simp; try exact rfl); (with_reducible exact fun _ u => Q3.out _); (try simp only [Act.put, List.setIfInBounds_toArray, List.set_cons_succ, List.set_cons_zero]))
        | ((with_reducible apply mo_callf (f := 14)); infer_instance; (intro _; go_simp; try exact rfl); (with_reducible exact fun u => Q3.out _); (try simp only [Act.put, List.setIfInBounds_toArray, List.set_cons_succ, List.set_cons_zero]))
        | ((with_reducible apply mm_callf (f := 15)); (intro _; go_simp; try exact rfl); (with_reducible exact fun _ u => Q5.out _); (try simp only [Act.put, List.setIfInBounds_toArray, List.set_cons_succ, List.set_cons_zero]))
        | ((with_reducible apply mo_callf (f := 15)); infer_instance; (intro _; go_simp; try exact rfl); (with_reducible exact fun u => Q5.out _); (try simp only [Act.put, List.setIfInBounds_toArray, List.set_cons_succ, List.set_cons_zero]))
        | ((with_reducible apply mm_value); (intro _; go_simp; try exact rfl); (try simp only [Act.put, List.setIfInBounds_toArray, List.set_cons_succ, List.set_cons_zero]))
        | ((with_reducible apply mo_store); exact rfl; exact rfl; infer_instance; infer_instance; infer_instance; infer_instance; (try simp only [Act.put, List.setIfInBounds_toArray, List.set_cons_succ, List.set_cons_zero]))
        | ((with_reducible apply mo_put); exact rfl; exact rfl; infer_instance; infer_instance; infer_instance; infer_instance; (try simp only [Act.put, List.setIfInBounds_toArray, List.set_cons_succ, List.set_cons_zero]))
        | ((with_reducible apply mo_alloc); infer_instance; infer_instance; intro _; (try simp only [Act.put, List.setIfInBounds_toArray, List.set_cons_succ, List.set_cons_zero]))
        | ((with_reducible apply mo_three); (decide); (decide); infer_instance; infer_instance; infer_instance; intro _ _ _; (try simp only [Act.put, List.setIfInBounds_toArray, List.set_cons_succ, List.set_cons_zero]))
        | ((with_reducible apply mo_four); (decide); (decide); infer_instance; infer_instance; infer_instance; infer_instance; intro _ _ _ _; (try simp only [Act.put, List.setIfInBounds_toArray, List.set_cons_succ, List.set_cons_zero]))
        | ((with_reducible apply mo_two); infer_instance; infer_instance; (decide); intro _ _; (try simp only [Act.put, List.setIfInBounds_toArray, List.set_cons_succ, List.set_cons_zero]))
        | ((with_reducible apply mo_load); infer_instance; exact rfl; infer_instance; infer_instance; (try simp only [Act.put, List.setIfInBounds_toArray, List.set_cons_succ, List.set_cons_zero]))
        | ((with_reducible apply mo_cell); infer_instance; exact rfl; infer_instance; infer_instance; (try simp only [Act.put, List.setIfInBounds_toArray, List.set_cons_succ, List.set_cons_zero]))
        | ((with_reducible apply mo_value); infer_instance; (intro _; go_simp; try exact rfl); (try simp only [Act.put, List.setIfInBounds_toArray, List.set_cons_succ, List.set_cons_zero])))
      refine mm_nil fun u9 => ?_
      go_wp2_with (fail)
      refine region_mixS [.take 0, .take 1, .take 2, .take 3, .take 4, .take 5, .take 6, .take 7, .take 8, .take 9, .take 10, .take 11, .take 12, .take 13, .take 14, .take 15, .take 16, .take 17, .take 18, .sole 19, .sole 20] _ (Sub.both (h := Sub.both (h := Sub.both (h := Sub.both (h := Sub.both (h := Sub.both (h := Sub.both (h := Sub.both (h := Sub.both (h := Sub.nil)))))))))) (by kernel_rfl) (by kernel_rfl) ?_
      simp only [picksM, Mv.pick, List.filterMap_cons, List.filterMap_nil, List.getElem?_cons_zero, List.getElem?_cons_succ, Option.map_some]
      refine MM.out ?_
      repeat (first
        | ((with_reducible apply mm_load); exact rfl; infer_instance; infer_instance; (try simp only [Act.put, List.setIfInBounds_toArray, List.set_cons_succ, List.set_cons_zero]))
        | ((with_reducible apply mm_cell); exact rfl; infer_instance; infer_instance; (try simp only [Act.put, List.setIfInBounds_toArray, List.set_cons_succ, List.set_cons_zero]))
        | ((with_reducible apply mm_Ratio); exact rfl; exact rfl; (try simp only [Act.put, List.setIfInBounds_toArray, List.set_cons_succ, List.set_cons_zero]))
        | ((with_reducible apply mm_callf (f := 13)); (intro _; go_simp; try exact rfl); (with_reducible exact fun _ u => Q2.out _); (try simp only [Act.put, List.setIfInBounds_toArray, List.set_cons_succ, List.set_cons_zero]))
        | ((with_reducible apply mo_callf (f := 13)); infer_instance; (intro _; go_simp; try exact rfl); (with_reducible exact fun u => Q2.out _); (try simp only [Act.put, List.setIfInBounds_toArray, List.set_cons_succ, List.set_cons_zero]))
        | ((with_reducible apply mm_callf (f := 14)); (intro _; go_simp; try exact rfl); (with_reducible exact fun _ u => Q4.out _); (try simp only [Act.put, List.setIfInBounds_toArray, List.set_cons_succ, List.set_cons_zero]))
        | ((with_reducible apply mo_callf (f := 14)); infer_instance; (intro _; go_simp; try exact rfl); (with_reducible exact fun u => Q4.out _); (try simp only [Act.put, List.setIfInBounds_toArray, List.set_cons_succ, List.set_cons_zero]))
        | ((with_reducible apply mm_callf (f := 15)); (intro _; go_simp; try exact rfl); (with_reducible exact fun _ u => Q6.out _); (try simp only [Act.put, List.setIfInBounds_toArray, List.set_cons_succ, List.set_cons_zero]))
        | ((with_reducible apply mo_callf (f := 15)); infer_instance; (intro _; go_simp; try exact rfl); (with_reducible exact fun u => Q6.out _); (try simp only [Act.put, List.setIfInBounds_toArray, List.set_cons_succ, List.set_cons_zero]))
        | ((with_reducible apply mm_value); (intro _; go_simp; try exact rfl); (try simp only [Act.put, List.setIfInBounds_toArray, List.set_cons_succ, List.set_cons_zero]))
        | ((with_reducible apply mo_store); exact rfl; exact rfl; infer_instance; infer_instance; infer_instance; infer_instance; (try simp only [Act.put, List.setIfInBounds_toArray, List.set_cons_succ, List.set_cons_zero]))
        | ((with_reducible apply mo_put); exact rfl; exact rfl; infer_instance; infer_instance; infer_instance; infer_instance; (try simp only [Act.put, List.setIfInBounds_toArray, List.set_cons_succ, List.set_cons_zero]))
        | ((with_reducible apply mo_alloc); infer_instance; infer_instance; intro _; (try simp only [Act.put, List.setIfInBounds_toArray, List.set_cons_succ, List.set_cons_zero]))
        | ((with_reducible apply mo_three); (decide); (decide); infer_instance; infer_instance; infer_instance; intro _ _ _; (try simp only [Act.put, List.setIfInBounds_toArray, List.set_cons_succ, List.set_cons_zero]))
        | ((with_reducible apply mo_four); (decide); (decide); infer_instance; infer_instance; infer_instance; infer_instance; intro _ _ _ _; (try simp only [Act.put, List.setIfInBounds_toArray, List.set_cons_succ, List.set_cons_zero]))
        | ((with_reducible apply mo_two); infer_instance; infer_instance; (decide); intro _ _; (try simp only [Act.put, List.setIfInBounds_toArray, List.set_cons_succ, List.set_cons_zero]))
        | ((with_reducible apply mo_load); infer_instance; exact rfl; infer_instance; infer_instance; (try simp only [Act.put, List.setIfInBounds_toArray, List.set_cons_succ, List.set_cons_zero]))
        | ((with_reducible apply mo_cell); infer_instance; exact rfl; infer_instance; infer_instance; (try simp only [Act.put, List.setIfInBounds_toArray, List.set_cons_succ, List.set_cons_zero]))
        | ((with_reducible apply mo_value); infer_instance; (intro _; go_simp; try exact rfl); (try simp only [Act.put, List.setIfInBounds_toArray, List.set_cons_succ, List.set_cons_zero])))
      refine mm_nil fun u10 => ?_
      go_wp2_with (first
        | ((with_reducible refine ls_skip ?_ ?_); (exact rfl); (try simp only [Act.put, List.setIfInBounds_toArray, List.set_cons_succ, List.set_cons_zero]))
        | ((with_reducible refine ck_load ?_); first | refine ls_load rfl inferInstance inferInstance ?_ | refine ls_cell rfl inferInstance inferInstance ?_)
        | ((with_reducible refine ck_gload ?_); first | refine lsg_load rfl rfl inferInstance inferInstance ?_ | refine lsg_cell rfl rfl inferInstance inferInstance ?_)
        | (go_at_call 9; (with_reducible refine (HA.out _).mono ?_); rintro e w' ⟨rfl, hb'⟩; obtain ⟨_, rfl⟩ := KW.go _ hb'; clear hb'))
      go_ret
      exact ⟨rfl, KW.below _⟩
theorem meetWhole_walk (k n m e x1 y1 z1 u1 x y z u s t p q : Int) (he : e ≤ 9223372036854775807) (w : World) : Calls Try.prog 5 #[mtv k n m e x1 y1 z1 u1, sgv x y z u, sgv s t p q] w (TrueAt9 w) := by
  cases h : placeB k n e x y z u with
  | false => exact meetWhole_no k n m e x1 y1 z1 u1 x y z u s t p q h w
  | true =>
    unfold placeB at h
    simp only [Bool.and_eq_true, beq_iff_eq, Bool.not_eq_true', decide_eq_false_iff_not] at h
    obtain ⟨rfl, h1, h2, h3, h4⟩ := h
    obtain ⟨N, rfl⟩ := Int.eq_ofNat_of_zero_le (Int.not_lt.1 h2)
    obtain ⟨D, rfl⟩ := Int.eq_ofNat_of_zero_le (show 0 ≤ e by omega)
    exact meetWhole_yes N D m x1 y1 z1 u1 x y z u s t p q (by omega) (by omega) (by omega) h4 w
end Go.Proofs.Ytoahcjjndjdljaa.MeW
