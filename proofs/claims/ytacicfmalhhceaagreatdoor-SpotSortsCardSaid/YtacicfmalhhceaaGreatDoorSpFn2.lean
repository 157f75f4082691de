/-
  package spot: how spots compare, points of the grid, spots along lines, texts.
-/
import Derived.Test.YtacicfmalhhceaaGreatDoorSpFn
namespace Go.Proofs.YtacicfmalhhceaaGreatDoor.SpW
open Go.RowKit
open DigM WideM WideV KM DigW WideW QuotW QuotM DecM FmtW SignM SignW RatW PtW SpM
open Go.Lib (decDigits nDigits)
abbrev spo (s : Bool) (n : Nat) (t : Bool) (m d : Nat) : Sp := ⟨sg s n, sg t m, d⟩
theorem mayS_parts {s : Bool} {n : Nat} {t : Bool} {m d : Nat} (h : mayS s n t m d = true) :
    n < T ∧ m < T ∧ d < T ∧ d ≠ 0 ∧ (s && !eqB n 0) = s ∧ (t && !eqB m 0) = t ∧ gS n m d = 1 := by
  unfold mayS smallS lowB eqB at h
  simp only [Bool.and_eq_true, decide_eq_true_eq, Bool.not_eq_true', decide_eq_false_iff_not] at h
  obtain ⟨⟨⟨h1, h2⟩, h3⟩, ⟨⟨h4, h5⟩, h6⟩, h7⟩ := h
  exact ⟨bl_T h1, bl_T h2, bl_T h3, h4, h5, h6, h7⟩
theorem may_good {s : Bool} {n : Nat} {t : Bool} {m d : Nat} (h : mayS s n t m d = true) : Low3 (spo s n t m d) ∧ spv s n t m d = zsv (sg s n) (sg t m) d := by
  obtain ⟨_, _, _, h4, h5, h6, h7⟩ := mayS_parts h
  refine ⟨⟨by show 0 < d; omega, by show gS (sg s n).natAbs (sg t m).natAbs d = 1; rw [sg_abs, sg_abs]; exact h7⟩, ?_⟩
  unfold zsv
  rw [ng_sg, ng_sg, sg_abs, sg_abs, h5, h6]
section
variable {s t s' t' : Bool} {n m d n' m' d' : Nat} (hn : Hid (n < M)) (hm : Hid (m < M)) (hd : Hid (d < M)) (hn' : Hid (n' < M)) (hm' : Hid (m' < M)) (hd' : Hid (d' < M))
include hn hm hd hn' hm' hd'
set_option maxRecDepth 100000 in
set_option maxHeartbeats 3200000 in
theorem order_any (h1 : mayS s n t m d = true) (h2 : mayS s' n' t' m' d' = true) (w : World) : Calls Tryz.prog 43 #[spv s n t m d, spv s' n' t' m' d'] w (Ret (.int .i64 (ordS (spo s n t m d) (spo s' n' t' m' d'))) w) := by
  obtain ⟨a1, a2, a3, _⟩ := mayS_parts h1
  obtain ⟨b1, b2, b3, _⟩ := mayS_parts h2
  have hT := T_M
  have m1 : n * d' < M := by have := T_mul a1 b3; omega
  have m2 : n' * d < M := by have := T_mul b1 a3; omega
  have m3 : m * d' < M := by have := T_mul a2 b3; omega
  have m4 : m' * d < M := by have := T_mul b2 a3; omega
  have H1 := fun w => stimes_any s n d' hn hd' m1 w
  have H2 := fun w => stimes_any s' n' d hn' hd m2 w
  have H3 := fun w => stimes_any t m d' hm hd' m3 w
  have H4 := fun w => stimes_any t' m' d hm' hd m4 w
  have HC := fun w => scmp_any (x := sg s n * d') (y := sg s' n' * d) (Lib.hid (by rw [Int.natAbs_mul, sg_abs, Int.natAbs_natCast]; exact m1)) (Lib.hid (by rw [Int.natAbs_mul, sg_abs, Int.natAbs_natCast]; exact m2)) w
  have HE := fun w => scmp_any (x := sg t m * d') (y := sg t' m' * d) (Lib.hid (by rw [Int.natAbs_mul, sg_abs, Int.natAbs_natCast]; exact m3)) (Lib.hid (by rw [Int.natAbs_mul, sg_abs, Int.natAbs_natCast]; exact m4)) w
  unfold ordS spo nv at *
  dsimp only at *
  generalize cmpZ (sg s n * d' - sg s' n' * d) = c at *
  generalize cmpZ (sg t m * d' - sg t' m' * d) = e at *
  generalize ng (sg s n * d') = p1 at *
  generalize (sg s n * d').natAbs = q1 at *
  generalize ng (sg s' n' * d) = p2 at *
  generalize (sg s' n' * d).natAbs = q2 at *
  generalize ng (sg t m * d') = p3 at *
  generalize (sg t m * d').natAbs = q3 at *
  generalize ng (sg t' m' * d) = p4 at *
  generalize (sg t' m' * d).natAbs = q4 at *
  replace H1 := Lib.hid H1
  replace H2 := Lib.hid H2
  replace H3 := Lib.hid H3
  replace H4 := Lib.hid H4
  replace HC := Lib.hid HC
  replace HE := Lib.hid HE
  clear h1 h2 a1 a2 a3 b1 b2 b3 hT m1 m2 m3 m4
  by_cases h0 : c = 0
  · rw [if_pos h0]
    subst h0
    refine enter fun u => ?_
    go_enter Tryz.func43, Tryz.ntmps43
    go_wp2_with (first
      | ((with_reducible refine ls_skip ?_ ?_); (exact rfl); (try simp only [Act.put, List.setIfInBounds_toArray, List.set_cons_succ, List.set_cons_zero]))
      | ((with_reducible refine ck_box ?_); refine list_box rfl fun _ _ => ?_))
    refine region (by kernel_rfl) (by kernel_rfl) fun _ => ?_
    refine QQ.out ?_
    repeat (first
      | ((with_reducible apply qq_skip); (exact rfl); (try simp only [Act.put, List.setIfInBounds_toArray, List.set_cons_succ, List.set_cons_zero]))
      | ((with_reducible apply qq_load); exact rfl; infer_instance; infer_instance; exact rfl; (try simp only [Act.put, List.setIfInBounds_toArray, List.set_cons_succ, List.set_cons_zero]))
      | ((with_reducible apply qq_cell); exact rfl; infer_instance; infer_instance; exact rfl; (try simp only [Act.put, List.setIfInBounds_toArray, List.set_cons_succ, List.set_cons_zero]))
      | ((with_reducible apply qq_callf (f := 74)); (intro _; go_simp; try exact rfl); (with_reducible exact fun u => H1.out _); exact rfl; (try simp only [Act.put, List.setIfInBounds_toArray, List.set_cons_succ, List.set_cons_zero]))
      | ((with_reducible apply qq_callf (f := 74)); (intro _; go_simp; try exact rfl); (with_reducible exact fun u => H2.out _); exact rfl; (try simp only [Act.put, List.setIfInBounds_toArray, List.set_cons_succ, List.set_cons_zero]))
      | ((with_reducible apply qq_callf (f := 73)); (intro _; go_simp; try exact rfl); (with_reducible exact fun u => HC.out _); exact rfl; (try simp only [Act.put, List.setIfInBounds_toArray, List.set_cons_succ, List.set_cons_zero]))
      | ((with_reducible apply qq_value); (intro _; go_simp; try exact rfl); exact rfl; (try simp only [Act.put, List.setIfInBounds_toArray, List.set_cons_succ, List.set_cons_zero]))
      | ((with_reducible apply qq_value); (intro _; go_simp; exact Eq.trans (if_neg (by first | omega | (simp only [ByteArray.size_append]; omega) | (simp [ByteArray.size_append]; omega))) rfl); exact rfl; (try simp only [Act.put, List.setIfInBounds_toArray, List.set_cons_succ, List.set_cons_zero])))
    refine qq_nil ?_
    rintro _ ⟨u7, rfl⟩
    go_wp2_with (fail)
    refine region (by kernel_rfl) (by kernel_rfl) fun _ => ?_
    refine QQ.out ?_
    repeat (first
      | ((with_reducible apply qq_skip); (exact rfl); (try simp only [Act.put, List.setIfInBounds_toArray, List.set_cons_succ, List.set_cons_zero]))
      | ((with_reducible apply qq_load); exact rfl; infer_instance; infer_instance; exact rfl; (try simp only [Act.put, List.setIfInBounds_toArray, List.set_cons_succ, List.set_cons_zero]))
      | ((with_reducible apply qq_cell); exact rfl; infer_instance; infer_instance; exact rfl; (try simp only [Act.put, List.setIfInBounds_toArray, List.set_cons_succ, List.set_cons_zero]))
      | ((with_reducible apply qq_callf (f := 74)); (intro _; go_simp; try exact rfl); (with_reducible exact fun u => H3.out _); exact rfl; (try simp only [Act.put, List.setIfInBounds_toArray, List.set_cons_succ, List.set_cons_zero]))
      | ((with_reducible apply qq_callf (f := 74)); (intro _; go_simp; try exact rfl); (with_reducible exact fun u => H4.out _); exact rfl; (try simp only [Act.put, List.setIfInBounds_toArray, List.set_cons_succ, List.set_cons_zero]))
      | ((with_reducible apply qq_callf (f := 73)); (intro _; go_simp; try exact rfl); (with_reducible exact fun u => HE.out _); exact rfl; (try simp only [Act.put, List.setIfInBounds_toArray, List.set_cons_succ, List.set_cons_zero]))
      | ((with_reducible apply qq_value); (intro _; go_simp; try exact rfl); exact rfl; (try simp only [Act.put, List.setIfInBounds_toArray, List.set_cons_succ, List.set_cons_zero]))
      | ((with_reducible apply qq_value); (intro _; go_simp; exact Eq.trans (if_neg (by first | omega | (simp only [ByteArray.size_append]; omega) | (simp [ByteArray.size_append]; omega))) rfl); exact rfl; (try simp only [Act.put, List.setIfInBounds_toArray, List.set_cons_succ, List.set_cons_zero])))
    refine qq_nil ?_
    rintro _ ⟨u8, rfl⟩
    go_wp2_with (fail)
    go_ret
    exact ⟨rfl, KW.below _⟩
  · rw [if_neg h0]
    have b0 : (c == 0) = false := beq_false_of_ne h0
    have b1 : (c != 0) = true := by rw [bne, b0]; rfl
    clear HE H3 H4 h0
    refine enter fun u => ?_
    go_enter Tryz.func43, Tryz.ntmps43
    go_wp2_with (first
      | ((with_reducible refine ls_skip ?_ ?_); (exact rfl); (try simp only [Act.put, List.setIfInBounds_toArray, List.set_cons_succ, List.set_cons_zero]))
      | ((with_reducible refine ck_box ?_); refine list_box rfl fun _ _ => ?_))
    refine region (by kernel_rfl) (by kernel_rfl) fun _ => ?_
    refine QQ.out ?_
    repeat (first
      | ((with_reducible apply qq_skip); (exact rfl); (try simp only [Act.put, List.setIfInBounds_toArray, List.set_cons_succ, List.set_cons_zero]))
      | ((with_reducible apply qq_load); exact rfl; infer_instance; infer_instance; exact rfl; (try simp only [Act.put, List.setIfInBounds_toArray, List.set_cons_succ, List.set_cons_zero]))
      | ((with_reducible apply qq_cell); exact rfl; infer_instance; infer_instance; exact rfl; (try simp only [Act.put, List.setIfInBounds_toArray, List.set_cons_succ, List.set_cons_zero]))
      | ((with_reducible apply qq_callf (f := 74)); (intro _; go_simp; try exact rfl); (with_reducible exact fun u => H1.out _); exact rfl; (try simp only [Act.put, List.setIfInBounds_toArray, List.set_cons_succ, List.set_cons_zero]))
      | ((with_reducible apply qq_callf (f := 74)); (intro _; go_simp; try exact rfl); (with_reducible exact fun u => H2.out _); exact rfl; (try simp only [Act.put, List.setIfInBounds_toArray, List.set_cons_succ, List.set_cons_zero]))
      | ((with_reducible apply qq_callf (f := 73)); (intro _; go_simp; try exact rfl); (with_reducible exact fun u => HC.out _); exact rfl; (try simp only [Act.put, List.setIfInBounds_toArray, List.set_cons_succ, List.set_cons_zero]))
      | ((with_reducible apply qq_value); (intro _; go_simp; try exact rfl); exact rfl; (try simp only [Act.put, List.setIfInBounds_toArray, List.set_cons_succ, List.set_cons_zero]))
      | ((with_reducible apply qq_value); (intro _; go_simp; exact Eq.trans (if_neg (by first | omega | (simp only [ByteArray.size_append]; omega) | (simp [ByteArray.size_append]; omega))) rfl); exact rfl; (try simp only [Act.put, List.setIfInBounds_toArray, List.set_cons_succ, List.set_cons_zero])))
    refine qq_nil ?_
    rintro _ ⟨u7, rfl⟩
    go_wp2_with (fail)
    go_ret
    exact ⟨rfl, KW.below _⟩
set_option maxRecDepth 100000 in
set_option maxHeartbeats 3200000 in
theorem scmpS_yes (h1 : mayS s n t m d = true) (h2 : mayS s' n' t' m' d' = true) (w : World) : Calls Tryz.prog 17 #[spv s n t m d, spv s' n' t' m' d'] w (Ret (.tuple #[.int .i64 (ordS (spo s n t m d) (spo s' n' t' m' d')), .int .i64 0]) w) := by
  have HA := fun w => smay_any s n t m d hn hm hd w
  have HB := fun w => smay_any s' n' t' m' d' hn' hm' hd' w
  have HO := fun w => order_any hn hm hd hn' hm' hd' h1 h2 w
  rw [h1] at HA
  rw [h2] at HB
  generalize ordS (spo s n t m d) (spo s' n' t' m' d') = c at *
  replace HA := Lib.hid HA
  replace HB := Lib.hid HB
  replace HO := Lib.hid HO
  clear h1 h2
  refine enter fun u => ?_
  go_enter Tryz.func17, Tryz.ntmps17
  go_wp2_with (first
    | ((with_reducible refine ls_skip ?_ ?_); (exact rfl); (try simp only [Act.put, List.setIfInBounds_toArray, List.set_cons_succ, List.set_cons_zero]))
    | ((with_reducible refine ck_box ?_); refine list_box rfl fun _ _ => ?_)
    | ((with_reducible refine ck_load ?_); first | refine ls_load rfl inferInstance inferInstance ?_ | refine ls_cell rfl inferInstance inferInstance ?_)
    | ((with_reducible refine ck_gload ?_); first | refine lsg_load rfl rfl inferInstance inferInstance ?_ | refine lsg_cell rfl rfl inferInstance inferInstance ?_)
    | (go_at_call 11; (with_reducible refine (HA.out _).mono ?_); rintro e w' ⟨rfl, hb'⟩; obtain ⟨_, rfl⟩ := KW.go _ hb'; clear hb')
    | (go_at_call 11; (with_reducible refine (HB.out _).mono ?_); rintro e w' ⟨rfl, hb'⟩; obtain ⟨_, rfl⟩ := KW.go _ hb'; clear hb')
    | (go_at_call 43; (with_reducible refine (HO.out _).mono ?_); rintro e w' ⟨rfl, hb'⟩; obtain ⟨_, rfl⟩ := KW.go _ hb'; clear hb'))
  go_ret2
  exact ⟨rfl, KW.below _⟩
set_option maxRecDepth 100000 in
set_option maxHeartbeats 3200000 in
theorem scmpS_no (h : (mayS s n t m d && mayS s' n' t' m' d') = false) (w : World) : Calls Tryz.prog 17 #[spv s n t m d, spv s' n' t' m' d'] w (Ret (.tuple #[.int .i64 0, .int .i64 1]) w) := by
  have HA := fun w => smay_any s n t m d hn hm hd w
  have HB := fun w => smay_any s' n' t' m' d' hn' hm' hd' w
  generalize mayS s n t m d = p at *
  generalize mayS s' n' t' m' d' = q at *
  replace HA := Lib.hid HA
  replace HB := Lib.hid HB
  cases p <;> cases q
  all_goals first | (exfalso; revert h; decide; done) | skip
  all_goals (
    clear h
    refine enter fun u => ?_
    go_enter Tryz.func17, Tryz.ntmps17
    go_wp2_with (first
      | ((with_reducible refine ls_skip ?_ ?_); (exact rfl); (try simp only [Act.put, List.setIfInBounds_toArray, List.set_cons_succ, List.set_cons_zero]))
      | ((with_reducible refine ck_box ?_); refine list_box rfl fun _ _ => ?_)
      | ((with_reducible refine ck_load ?_); first | refine ls_load rfl inferInstance inferInstance ?_ | refine ls_cell rfl inferInstance inferInstance ?_)
      | ((with_reducible refine ck_gload ?_); first | refine lsg_load rfl rfl inferInstance inferInstance ?_ | refine lsg_cell rfl rfl inferInstance inferInstance ?_)
      | (go_at_call 11; (with_reducible refine (HA.out _).mono ?_); rintro e w' ⟨rfl, hb'⟩; obtain ⟨_, rfl⟩ := KW.go _ hb'; clear hb')
      | (go_at_call 11; (with_reducible refine (HB.out _).mono ?_); rintro e w' ⟨rfl, hb'⟩; obtain ⟨_, rfl⟩ := KW.go _ hb'; clear hb'))
    go_ret2
    exact ⟨rfl, KW.below _⟩)
end
theorem eqlW1' (g : Nat) (hg : g < M) (w : World) : (Op.equalIn 10000 24 (.agg (cells 8 g)) (.agg (cells 8 1))).run Tryz.prog w = .ok (eqB g 1) w := eqlW1 g hg w
theorem mayP_in {x y : Int} (h : mayP x y = true) : inI x = true ∧ inI y = true := by
  unfold mayP inB at h
  unfold inI
  simp only [Bool.and_eq_true, decide_eq_true_eq] at *
  omega
/-- a point of the grid that a spot is -/
def gridB (s : Bool) (n : Nat) (t : Bool) (m d : Nat) : Bool := mayS s n t m d && eqB d 1 && mayP (sg s n) (sg t m)
def gridV (s : Bool) (n : Nat) (t : Bool) (m d : Nat) : Value := .tuple #[if gridB s n t m d = true then ptv (sg s n) (sg t m) else ptv 0 0, .bool (gridB s n t m d)]
set_option maxRecDepth 100000 in
set_option maxHeartbeats 6400000 in
theorem grid_any (s : Bool) (n : Nat) (t : Bool) (m d : Nat) (hn : Hid (n < M)) (hm : Hid (m < M)) (hd : Hid (d < M)) (w : World) : Calls Tryz.prog 7 #[spv s n t m d] w (Ret (gridV s n t m d) w) := by
  have HA := fun w => smay_any s n t m d hn hm hd w
  have HX := fun w => small_any s n hn w
  have HY := fun w => small_any t m hm w
  have HO : Hid (∀ w, Calls Tryz.prog 31 #[.int .u64 1] w (Ret (wv 1) w)) := Lib.hid (fun w => of_any 1 (Lib.hid (by omega)) w)
  have heq := fun w => eqlW1 d hd.out w
  have HP := fun w => may_any (sg s n) (sg t m) w
  have hin := mayP_in (x := sg s n) (y := sg t m)
  unfold gridV gridB
  unfold smallV at HX HY
  generalize sg s n = x at *
  generalize sg t m = y at *
  generalize mayS s n t m d = b1 at *
  generalize eqB d 1 = b2 at *
  generalize mayP x y = b3 at *
  cases hix : inI x <;> cases hiy : inI y <;> cases b3
  all_goals first | (exfalso; revert hin; rw [hix, hiy]; decide; done) | skip
  all_goals (
    rw [hix] at HX
    rw [hiy] at HY
    clear hin hix hiy
    replace HA := Lib.hid HA
    replace HX := Lib.hid HX
    replace HY := Lib.hid HY
    replace HP := Lib.hid HP
    cases b1 <;> cases b2
    all_goals (
      refine enter fun u => ?_
      go_enter Tryz.func7, Tryz.ntmps7
      go_wp2_with (first
        | ((with_reducible refine ls_skip ?_ ?_); (exact rfl); (try simp only [Act.put, List.setIfInBounds_toArray, List.set_cons_succ, List.set_cons_zero]))
        | ((with_reducible refine ck_box ?_); refine list_box rfl fun _ _ => ?_)
        | ((with_reducible refine ck_alloc ?_); refine ls_alloc inferInstance fun _ _ => ?_))
      refine region (by kernel_rfl) (by kernel_rfl) fun _ => ?_
      refine QQ.out ?_
      repeat (first
        | ((with_reducible apply qq_skip); (exact rfl); (try simp only [Act.put, List.setIfInBounds_toArray, List.set_cons_succ, List.set_cons_zero]))
        | ((with_reducible apply qq_load); exact rfl; infer_instance; infer_instance; exact rfl; (try simp only [Act.put, List.setIfInBounds_toArray, List.set_cons_succ, List.set_cons_zero]))
        | ((with_reducible apply qq_cell); exact rfl; infer_instance; infer_instance; exact rfl; (try simp only [Act.put, List.setIfInBounds_toArray, List.set_cons_succ, List.set_cons_zero]))
        | ((with_reducible apply qq_callf (f := 11)); (intro _; go_simp; try exact rfl); (with_reducible exact fun u => HA.out _); exact rfl; (try simp only [Act.put, List.setIfInBounds_toArray, List.set_cons_succ, List.set_cons_zero]))
        | ((with_reducible apply qq_callf (f := 31)); (intro _; go_simp; try exact rfl); (with_reducible exact fun u => HO.out _); exact rfl; (try simp only [Act.put, List.setIfInBounds_toArray, List.set_cons_succ, List.set_cons_zero]))
        | ((with_reducible apply qq_value); (intro _; go_simp; try exact rfl); exact rfl; (try simp only [Act.put, List.setIfInBounds_toArray, List.set_cons_succ, List.set_cons_zero]))
        | ((with_reducible apply qq_value); (intro _; go_simp; exact Eq.trans (if_neg (by first | omega | (simp only [ByteArray.size_append]; omega) | (simp [ByteArray.size_append]; omega))) rfl); exact rfl; (try simp only [Act.put, List.setIfInBounds_toArray, List.set_cons_succ, List.set_cons_zero])))
      refine qq_nil ?_
      rintro _ ⟨u7, rfl⟩
      go_wp2_with (first
        | ((with_reducible refine ls_skip ?_ ?_); (exact rfl); (try simp only [Act.put, List.setIfInBounds_toArray, List.set_cons_succ, List.set_cons_zero]))
        | ((with_reducible refine ck_load ?_); first | refine ls_load rfl inferInstance inferInstance ?_ | refine ls_cell rfl inferInstance inferInstance ?_)
        | ((with_reducible refine ck_gload ?_); first | refine lsg_load rfl rfl inferInstance inferInstance ?_ | refine lsg_cell rfl rfl inferInstance inferInstance ?_)
        | ((with_reducible refine ck_alloc ?_); refine ls_alloc inferInstance fun _ _ => ?_)
        | ((with_reducible refine ck_store ?_); refine ls_store rfl rfl inferInstance inferInstance inferInstance fun _ => ?_)
        | ((with_reducible refine ck_build (t := 30) (xs := #[]) ?_); refine ls_Pt_ ?_)
        | ((with_reducible refine ck_build (t := 30) (xs := #[(0, _), (1, _)]) ?_); refine ls_Pt rfl rfl ?_)
        | (go_at_call 32; (with_reducible refine (HX.out _).mono ?_); rintro e w' ⟨rfl, hb'⟩; obtain ⟨_, rfl⟩ := KW.go _ hb'; clear hb')
        | (go_at_call 32; (with_reducible refine (HY.out _).mono ?_); rintro e w' ⟨rfl, hb'⟩; obtain ⟨_, rfl⟩ := KW.go _ hb'; clear hb')
        | (go_at_call 33; (with_reducible refine (HP.out _).mono ?_); rintro e w' ⟨rfl, hb'⟩; obtain ⟨_, rfl⟩ := KW.go _ hb'; clear hb'))
      exact bd_cell_tmp Tryz.results7 rfl rfl inferInstance inferInstance ⟨rfl, KW.below _⟩))
def ba (l : List UInt8) : ByteArray := ⟨l.toArray⟩
theorem ba_len (l : List UInt8) : (ba l).size = l.length := ba_size l
/-- a spot as a text -/
def stxt (s : Bool) (n : Nat) (t : Bool) (m d : Nat) : ByteArray := ba (zdec (sg s n)) ++ ⟨#[32]⟩ ++ ba (zdec (sg t m)) ++ ⟨#[32]⟩ ++ ba (decDigits d)
theorem zdec_len (s : Bool) {n : Nat} (h : n < M) : (zdec (sg s n)).length ≤ 201 := by
  have := dec_small n h
  unfold zdec
  rw [sg_abs]
  split
  · rw [List.length_cons]; omega
  · omega
set_option maxRecDepth 100000 in
set_option maxHeartbeats 3200000 in
theorem stextS_any (s : Bool) (n : Nat) (t : Bool) (m d : Nat) (hn : Hid (n < M)) (hm : Hid (m < M)) (hd : Hid (d < M)) (w : World) (ht : Tab w) : Calls Tryz.prog 19 #[spv s n t m d] w (Ret (.string (stxt s n t m d)) w) := by
  have HT := Lib.hid ht
  have H1 := fun w (ht : Tab w) => stext_any s n hn w ht
  have H2 := fun w (ht : Tab w) => stext_any t m hm w ht
  have H3 := fun w (ht : Tab w) => text_any d hd w ht
  have z1 : (ba (zdec (sg s n))).size ≤ 201 := by rw [ba_len]; exact zdec_len s hn.out
  have z2 : (ba (zdec (sg t m))).size ≤ 201 := by rw [ba_len]; exact zdec_len t hm.out
  have z3 : (ba (decDigits d)).size ≤ 201 := by rw [ba_len]; have := dec_small d hd.out; omega
  unfold stxt
  unfold vs at H1 H2 H3
  change ∀ w, Tab w → Calls _ _ _ _ (Ret (.string (ba (zdec (sg s n)))) w) at H1
  change ∀ w, Tab w → Calls _ _ _ _ (Ret (.string (ba (zdec (sg t m)))) w) at H2
  change ∀ w, Tab w → Calls _ _ _ _ (Ret (.string (ba (decDigits d))) w) at H3
  generalize ba (zdec (sg s n)) = a at *
  generalize ba (zdec (sg t m)) = b at *
  generalize ba (decDigits d) = c at *
  replace H1 := Lib.hid H1
  replace H2 := Lib.hid H2
  replace H3 := Lib.hid H3
  clear ht
  refine enter fun u => ?_
  go_enter Tryz.func19, Tryz.ntmps19
  go_wp2_with (first
    | ((with_reducible refine ls_skip ?_ ?_); (exact rfl); (try simp only [Act.put, List.setIfInBounds_toArray, List.set_cons_succ, List.set_cons_zero]))
    | ((with_reducible refine ck_box ?_); refine list_box rfl fun _ _ => ?_))
  refine region (by kernel_rfl) (by kernel_rfl) fun _ => ?_
  refine QQ.out ?_
  repeat (first
    | ((with_reducible apply qq_skip); (exact rfl); (try simp only [Act.put, List.setIfInBounds_toArray, List.set_cons_succ, List.set_cons_zero]))
    | ((with_reducible apply qq_load); exact rfl; infer_instance; infer_instance; exact rfl; (try simp only [Act.put, List.setIfInBounds_toArray, List.set_cons_succ, List.set_cons_zero]))
    | ((with_reducible apply qq_cell); exact rfl; infer_instance; infer_instance; exact rfl; (try simp only [Act.put, List.setIfInBounds_toArray, List.set_cons_succ, List.set_cons_zero]))
    | ((with_reducible apply qq_callf (f := 46)); (intro _; go_simp; try exact rfl); (with_reducible exact fun u => H1.out _ (HT.out.later (KW.below _) (Nat.le_refl _))); exact rfl; (try simp only [Act.put, List.setIfInBounds_toArray, List.set_cons_succ, List.set_cons_zero]))
    | ((with_reducible apply qq_callf (f := 46)); (intro _; go_simp; try exact rfl); (with_reducible exact fun u => H2.out _ (HT.out.later (KW.below _) (Nat.le_refl _))); exact rfl; (try simp only [Act.put, List.setIfInBounds_toArray, List.set_cons_succ, List.set_cons_zero]))
    | ((with_reducible apply qq_callf (f := 47)); (intro _; go_simp; try exact rfl); (with_reducible exact fun u => H3.out _ (HT.out.later (KW.below _) (Nat.le_refl _))); exact rfl; (try simp only [Act.put, List.setIfInBounds_toArray, List.set_cons_succ, List.set_cons_zero]))
    | ((with_reducible apply qq_value); (intro _; go_simp; try exact rfl); exact rfl; (try simp only [Act.put, List.setIfInBounds_toArray, List.set_cons_succ, List.set_cons_zero]))
    | ((with_reducible apply qq_value); (intro _; go_simp; exact Eq.trans (if_neg (by first | omega | (simp only [ByteArray.size_append]; omega) | (simp [ByteArray.size_append]; omega))) rfl); exact rfl; (try simp only [Act.put, List.setIfInBounds_toArray, List.set_cons_succ, List.set_cons_zero])))
  refine qq_nil ?_
  rintro _ ⟨u7, rfl⟩
  go_wp2_with (fail)
  go_ret
  exact ⟨rfl, KW.below _⟩
/-! ### along lines -/
/-- d times the number that is n parts of d of the way -/
def mixZ (x z n d : Int) : Int := x * (d - n) + z * n
theorem mul_small {a b A B : Nat} (ha : a ≤ A) (hb : b ≤ B) : a * b ≤ A * B := Nat.mul_le_mul ha hb
theorem B92 : 536870912 * 9223372036854775807 < M := by rw [M_two 512 rfl]; decide +kernel
theorem B93 : 536870912 * 9223372036854775807 + 536870912 * 9223372036854775807 < M := by rw [M_two 512 rfl]; decide +kernel
section
variable {x z n d : Int} (hx : -536870912 ≤ x ∧ x ≤ 536870912) (hz : -536870912 ≤ z ∧ z ≤ 536870912) (h0 : 0 ≤ n) (h1 : n ≤ d) (h2 : d ≤ 9223372036854775807)
include hx hz h0 h1 h2
theorem mix_parts : (x * (d - n)).natAbs ≤ 536870912 * 9223372036854775807 ∧ (z * n).natAbs ≤ 536870912 * 9223372036854775807 ∧ (mixZ x z n d).natAbs ≤ 536870912 * 9223372036854775807 + 536870912 * 9223372036854775807 := by
  have a1 : (x * (d - n)).natAbs ≤ 536870912 * 9223372036854775807 := by rw [Int.natAbs_mul]; exact mul_small (by omega) (by omega)
  have a2 : (z * n).natAbs ≤ 536870912 * 9223372036854775807 := by rw [Int.natAbs_mul]; exact mul_small (by omega) (by omega)
  refine ⟨a1, a2, ?_⟩
  unfold mixZ
  exact Nat.le_trans (Int.natAbs_add_le _ _) (Nat.add_le_add a1 a2)
theorem mix_lt : (mixZ x z n d).natAbs < M := Nat.lt_of_le_of_lt (mix_parts hx hz h0 h1 h2).2.2 B93
set_option maxRecDepth 100000 in
set_option maxHeartbeats 3200000 in
theorem mixed_any (w : World) : Calls Tryz.prog 51 #[.int .i64 x, .int .i64 z, .int .i64 n, .int .i64 d] w (Ret (nv (mixZ x z n d)) w) := by
  obtain ⟨a1, a2, a3⟩ := mix_parts hx hz h0 h1 h2
  have b1 := Nat.lt_of_le_of_lt a1 B92
  have b2 := Nat.lt_of_le_of_lt a2 B92
  have b3 := Nat.lt_of_le_of_lt a3 B93
  have hw : IntKind.i64.wrap (d - n) = d - n := by rw [IntKind.wrap_i64]; omega
  have G1 := fun w => sof_any x (by omega) (by omega) w
  have G2 := fun w => sof_any (d - n) (by omega) (by omega) w
  have G3 := fun w => sof_any z (by omega) (by omega) w
  have G4 := fun w => sof_any n (by omega) (by omega) w
  have H1 := fun w => smul_nv (x := x) (y := d - n) (Lib.hid (small_M (by omega))) (Lib.hid (small_M (by omega))) w
  have H2 := fun w => smul_nv (x := z) (y := n) (Lib.hid (small_M (by omega))) (Lib.hid (small_M (by omega))) w
  have H3 := fun w => sadd_nv (x := x * (d - n)) (y := z * n) (Lib.hid b1) (Lib.hid b2) w
  rw [fv_fit b1] at H1
  rw [fv_fit b2] at H2
  unfold mixZ at *
  rw [fv_fit b3] at H3
  clear a1 a2 a3 b1 b2 b3 hx hz h0 h1 h2
  unfold nv at *
  generalize x * (d - n) + z * n = e at *
  generalize x * (d - n) = e1 at *
  generalize z * n = e2 at *
  replace G1 := Lib.hid G1
  replace G2 := Lib.hid G2
  replace G3 := Lib.hid G3
  replace G4 := Lib.hid G4
  replace H1 := Lib.hid H1
  replace H2 := Lib.hid H2
  replace H3 := Lib.hid H3
  refine enter fun u => ?_
  go_enter Tryz.func51, Tryz.ntmps51
  go_wp2_with (first
    | ((with_reducible refine ls_skip ?_ ?_); (exact rfl); (try simp only [Act.put, List.setIfInBounds_toArray, List.set_cons_succ, List.set_cons_zero]))
    | ((with_reducible refine ck_alloc ?_); refine ls_alloc inferInstance fun _ _ => ?_)
    | ((with_reducible refine ck_load ?_); first | refine ls_load rfl inferInstance inferInstance ?_ | refine ls_cell rfl inferInstance inferInstance ?_)
    | ((with_reducible refine ck_store ?_); refine ls_store rfl rfl inferInstance inferInstance inferInstance fun _ => ?_)
    | (go_at_call 34; (with_reducible refine (G1.out _).mono ?_); rintro e w' ⟨rfl, hb'⟩; obtain ⟨_, rfl⟩ := KW.go _ hb'; clear hb')
    | (go_at_call 34; (with_reducible refine (G2.out _).mono ?_); rintro e w' ⟨rfl, hb'⟩; obtain ⟨_, rfl⟩ := KW.go _ hb'; clear hb')
    | (go_at_call 34; (with_reducible refine (G3.out _).mono ?_); rintro e w' ⟨rfl, hb'⟩; obtain ⟨_, rfl⟩ := KW.go _ hb'; clear hb')
    | (go_at_call 34; (with_reducible refine (G4.out _).mono ?_); rintro e w' ⟨rfl, hb'⟩; obtain ⟨_, rfl⟩ := KW.go _ hb'; clear hb')
    | (go_at_call 79; (with_reducible refine (H1.out _).mono ?_); rintro e w' ⟨rfl, hb'⟩; obtain ⟨_, rfl⟩ := KW.go _ hb'; clear hb')
    | (go_at_call 79; (with_reducible refine (H2.out _).mono ?_); rintro e w' ⟨rfl, hb'⟩; obtain ⟨_, rfl⟩ := KW.go _ hb'; clear hb')
    | (go_at_call 80; (with_reducible refine (H3.out _).mono ?_); rintro e w' ⟨rfl, hb'⟩; obtain ⟨_, rfl⟩ := KW.go _ hb'; clear hb'))
  exact bd_cell Tryz.results51 rfl inferInstance inferInstance ⟨rfl, KW.below _⟩
end
/-- may a part of a line be told? -/
def partB (x y z u n d : Int) : Bool := lineP x y z u && !decide (d < 1) && !decide (n < 0) && !decide (d < n)
/-- the spot of a line -/
def ofSV (x y z u n d : Int) : Value := lowSV (ng (mixZ x z n d)) (mixZ x z n d).natAbs (ng (mixZ y u n d)) (mixZ y u n d).natAbs d.toNat
set_option maxRecDepth 100000 in
set_option maxHeartbeats 3200000 in
theorem ofS_no (x y z u n d : Int) (h : partB x y z u n d = false) (w : World) : Calls Tryz.prog 23 #[sgv x y z u, .int .i64 n, .int .i64 d] w (Ret (.tuple #[spv false 0 false 0 0, .int .i64 1]) w) := by
  have HL := fun w => line_any x y z u w
  unfold partB at h
  generalize lineP x y z u = p at *
  replace HL := Lib.hid HL
  cases e1 : p <;> cases e2 : decide (d < 1) <;> cases e3 : decide (n < 0) <;> cases e4 : decide (d < n)
  all_goals first | (exfalso; revert h; rw [e1, e2, e3, e4]; decide; done) | skip
  all_goals (
    subst e1
    clear h
    refine enter fun u => ?_
    go_enter Tryz.func23, Tryz.ntmps23
    go_wp2_with (first
      | ((with_reducible refine ls_skip ?_ ?_); (exact rfl); (try simp only [Act.put, List.setIfInBounds_toArray, List.set_cons_succ, List.set_cons_zero]))
      | ((with_reducible refine ck_box ?_); refine list_box rfl fun _ _ => ?_)
      | ((with_reducible refine ck_alloc ?_); refine ls_alloc inferInstance fun _ _ => ?_)
      | ((with_reducible refine ck_load ?_); first | refine ls_load rfl inferInstance inferInstance ?_ | refine ls_cell rfl inferInstance inferInstance ?_)
      | ((with_reducible refine ck_gload ?_); first | refine lsg_load rfl rfl inferInstance inferInstance ?_ | refine lsg_cell rfl rfl inferInstance inferInstance ?_)
      | ((with_reducible refine ck_store ?_); refine ls_store rfl rfl inferInstance inferInstance inferInstance fun _ => ?_)
      | ((with_reducible refine ck_build (t := 28) (xs := #[]) ?_); refine ls_Spot_ ?_)
      | (go_at_call 50; (with_reducible refine (HL.out _).mono ?_); rintro e w' ⟨rfl, hb'⟩; obtain ⟨_, rfl⟩ := KW.go _ hb'; clear hb'))
    exact bd_cell_tmp Tryz.results23 rfl rfl inferInstance inferInstance ⟨rfl, KW.below _⟩)
theorem part_parts {x y z u n d : Int} (h : partB x y z u n d = true) : lineP x y z u = true ∧ 1 ≤ d ∧ 0 ≤ n ∧ n ≤ d := by
  unfold partB at h
  simp only [Bool.and_eq_true, Bool.not_eq_true', decide_eq_false_iff_not] at h
  exact ⟨h.1.1.1, by omega, by omega, by omega⟩
theorem line_in {x y z u : Int} (h : lineP x y z u = true) : (-536870912 ≤ x ∧ x ≤ 536870912) ∧ (-536870912 ≤ y ∧ y ≤ 536870912) ∧ (-536870912 ≤ z ∧ z ≤ 536870912) ∧ (-536870912 ≤ u ∧ u ≤ 536870912) := by
  unfold lineP mayP inB at h
  simp only [Bool.and_eq_true, decide_eq_true_eq] at h
  omega
set_option maxRecDepth 100000 in
set_option maxHeartbeats 3200000 in
theorem ofS_yes (x y z u n d : Int) (h : partB x y z u n d = true) (hd : d ≤ 9223372036854775807) (w : World) : Calls Tryz.prog 23 #[sgv x y z u, .int .i64 n, .int .i64 d] w (Ret (.tuple #[ofSV x y z u n d, .int .i64 0]) w) := by
  obtain ⟨hl, h1, h2, h3⟩ := part_parts h
  obtain ⟨bx, hy, hz, hu⟩ := line_in hl
  have HL := fun w => line_any x y z u w
  rw [hl] at HL
  have HX := fun w => mixed_any bx hz h2 h3 hd w
  have HY := fun w => mixed_any hy hu h2 h3 hd w
  obtain ⟨k, rfl⟩ : ∃ k : Nat, d = k := ⟨d.toNat, by omega⟩
  have hk : Hid (k < M) := Lib.hid (small_M (by omega))
  have HW := fun w => of_any k (Lib.hid (by omega)) w
  have HM := fun w => make_some (ng (mixZ x z n k)) (mixZ x z n k).natAbs (ng (mixZ y u n k)) (mixZ y u n k).natAbs k (Lib.hid (mix_lt bx hz h2 h3 hd)) (Lib.hid (mix_lt hy hu h2 h3 hd)) hk (by omega) w
  unfold ofSV
  rw [Int.toNat_natCast]
  have c0 : IntKind.u64.wrap (k : Int) = (k : Int) := by rw [IntKind.wrap_u64]; omega
  have e2 : decide ((k : Int) < 1) = false := decide_eq_false (by omega)
  have e3 : decide (n < 0) = false := decide_eq_false (by omega)
  have e4 : decide ((k : Int) < n) = false := decide_eq_false (by omega)
  unfold lowSV zsv nv at *
  generalize sg (ng (mixZ x z n k)) ((mixZ x z n k).natAbs / gS (mixZ x z n k).natAbs (mixZ y u n k).natAbs k) = X at *
  generalize sg (ng (mixZ y u n k)) ((mixZ y u n k).natAbs / gS (mixZ x z n k).natAbs (mixZ y u n k).natAbs k) = Y at *
  generalize k / gS (mixZ x z n k).natAbs (mixZ y u n k).natAbs k = E at *
  generalize mixZ x z n k = mx at *
  generalize mixZ y u n k = my at *
  replace HL := Lib.hid HL
  replace HX := Lib.hid HX
  replace HY := Lib.hid HY
  replace HW := Lib.hid HW
  replace HM := Lib.hid HM
  clear h hl h1 h2 h3 bx hy hz hu hd hk
  refine enter fun u => ?_
  go_enter Tryz.func23, Tryz.ntmps23
  go_wp2_with (first
    | ((with_reducible refine ls_skip ?_ ?_); (exact rfl); (try simp only [Act.put, List.setIfInBounds_toArray, List.set_cons_succ, List.set_cons_zero]))
    | ((with_reducible refine ck_box ?_); refine list_box rfl fun _ _ => ?_)
    | ((with_reducible refine ck_alloc ?_); refine ls_alloc inferInstance fun _ _ => ?_)
    | ((with_reducible refine ck_load ?_); first | refine ls_load rfl inferInstance inferInstance ?_ | refine ls_cell rfl inferInstance inferInstance ?_)
    | ((with_reducible refine ck_gload ?_); first | refine lsg_load rfl rfl inferInstance inferInstance ?_ | refine lsg_cell rfl rfl inferInstance inferInstance ?_)
    | ((with_reducible refine ck_store ?_); refine ls_store rfl rfl inferInstance inferInstance inferInstance fun _ => ?_)
    | (go_at_call 50; (with_reducible refine (HL.out _).mono ?_); rintro e w' ⟨rfl, hb'⟩; obtain ⟨_, rfl⟩ := KW.go _ hb'; clear hb'))
  refine region_mixS [.take 0, .take 1, .take 2, .take 3, .take 4, .take 5, .take 6, .take 7, .take 8, .take 9, .take 10, .take 11, .take 12, .take 13, .take 14, .take 15, .take 16, .take 17, .take 18, .take 19, .take 20, .take 21, .take 22, .take 23, .sole 24, .take 25] _ (Sub.skip (h := Sub.both (h := Sub.nil))) (by kernel_rfl) (by kernel_rfl) ?_
  simp only [picksM, Mv.pick, List.filterMap_cons, List.filterMap_nil, List.getElem?_cons_zero, List.getElem?_cons_succ, Option.map_some]
  refine MM.out ?_
  repeat (first
    | ((with_reducible apply mm_load); exact rfl; infer_instance; infer_instance; (try simp only [Act.put, List.setIfInBounds_toArray, List.set_cons_succ, List.set_cons_zero]))
    | ((with_reducible apply mm_cell); exact rfl; infer_instance; infer_instance; (try simp only [Act.put, List.setIfInBounds_toArray, List.set_cons_succ, List.set_cons_zero]))
    | ((with_reducible apply mm_callf (f := 51)); (intro _; go_simp; try exact rfl); (with_reducible exact fun _ u => HX.out _); (try simp only [Act.put, List.setIfInBounds_toArray, List.set_cons_succ, List.set_cons_zero]))
    | ((with_reducible apply mo_callf (f := 51)); infer_instance; (intro _; go_simp; try exact rfl); (with_reducible exact fun u => HX.out _); (try simp only [Act.put, List.setIfInBounds_toArray, List.set_cons_succ, List.set_cons_zero]))
    | ((with_reducible apply mm_callf (f := 51)); (intro _; go_simp; try exact rfl); (with_reducible exact fun _ u => HY.out _); (try simp only [Act.put, List.setIfInBounds_toArray, List.set_cons_succ, List.set_cons_zero]))
    | ((with_reducible apply mo_callf (f := 51)); infer_instance; (intro _; go_simp; try exact rfl); (with_reducible exact fun u => HY.out _); (try simp only [Act.put, List.setIfInBounds_toArray, List.set_cons_succ, List.set_cons_zero]))
    | ((with_reducible apply mm_callf (f := 31)); (intro _; go_simp; try exact rfl); (with_reducible exact fun _ u => HW.out _); (try simp only [Act.put, List.setIfInBounds_toArray, List.set_cons_succ, List.set_cons_zero]))
    | ((with_reducible apply mo_callf (f := 31)); infer_instance; (intro _; go_simp; try exact rfl); (with_reducible exact fun u => HW.out _); (try simp only [Act.put, List.setIfInBounds_toArray, List.set_cons_succ, List.set_cons_zero]))
    | ((with_reducible apply mm_callf (f := 6)); (intro _; go_simp; try exact rfl); (with_reducible exact fun _ u => HM.out _); (try simp only [Act.put, List.setIfInBounds_toArray, List.set_cons_succ, List.set_cons_zero]))
    | ((with_reducible apply mo_callf (f := 6)); infer_instance; (intro _; go_simp; try exact rfl); (with_reducible exact fun u => HM.out _); (try simp only [Act.put, List.setIfInBounds_toArray, List.set_cons_succ, List.set_cons_zero]))
    | ((with_reducible apply mm_value); (intro _; go_simp; try exact rfl); (try simp only [Act.put, List.setIfInBounds_toArray, List.set_cons_succ, List.set_cons_zero]))
    | ((with_reducible apply mo_store); exact rfl; exact rfl; infer_instance; infer_instance; infer_instance; infer_instance; (try simp only [Act.put, List.setIfInBounds_toArray, List.set_cons_succ, List.set_cons_zero]))
    | ((with_reducible apply mo_put); exact rfl; exact rfl; infer_instance; infer_instance; infer_instance; infer_instance; (try simp only [Act.put, List.setIfInBounds_toArray, List.set_cons_succ, List.set_cons_zero]))
    | ((with_reducible apply mo_alloc); infer_instance; infer_instance; intro _; (try simp only [Act.put, List.setIfInBounds_toArray, List.set_cons_succ, List.set_cons_zero]))
    | ((with_reducible apply mo_three); (decide); (decide); infer_instance; infer_instance; infer_instance; intro _ _ _; (try simp only [Act.put, List.setIfInBounds_toArray, List.set_cons_succ, List.set_cons_zero]))
    | ((with_reducible apply mo_four); (decide); (decide); infer_instance; infer_instance; infer_instance; infer_instance; intro _ _ _ _; (try simp only [Act.put, List.setIfInBounds_toArray, List.set_cons_succ, List.set_cons_zero]))
    | ((with_reducible apply mo_two); infer_instance; infer_instance; (decide); intro _ _; (try simp only [Act.put, List.setIfInBounds_toArray, List.set_cons_succ, List.set_cons_zero]))
    | ((with_reducible apply mo_load); infer_instance; exact rfl; infer_instance; infer_instance; (try simp only [Act.put, List.setIfInBounds_toArray, List.set_cons_succ, List.set_cons_zero]))
    | ((with_reducible apply mo_cell); infer_instance; exact rfl; infer_instance; infer_instance; (try simp only [Act.put, List.setIfInBounds_toArray, List.set_cons_succ, List.set_cons_zero]))
    | ((with_reducible apply mo_value); infer_instance; (intro _; go_simp; try exact rfl); (try simp only [Act.put, List.setIfInBounds_toArray, List.set_cons_succ, List.set_cons_zero])))
  refine mm_nil fun u7 => ?_
  go_wp2_with (fail)
  exact bd_cell_tmp Tryz.results23 rfl rfl inferInstance inferInstance ⟨rfl, KW.below _⟩
end Go.Proofs.YtacicfmalhhceaaGreatDoor.SpW
