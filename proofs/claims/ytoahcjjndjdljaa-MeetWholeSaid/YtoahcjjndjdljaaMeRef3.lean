/-
  The document's layer 9: parts as fractions.
-/
import Derived.Test.YtoahcjjndjdljaaMeFn4
namespace RatM
/-- fractions that are worth the same are the same in lowest terms -/
theorem low_eq {z y : Int} {d e : Nat} (hd : 0 < d) (he : 0 < e) (h : z * e = y * d) : lowN z d = lowN y e ∧ lowD z d = lowD y e := by
  refine terms_unique (low_terms hd) (low_terms he) ?_
  have h1 := low_value z d
  have h2 := low_value y e
  generalize lowN z d = n at *
  generalize lowD z d = D at *
  generalize lowN y e = m at *
  generalize lowD y e = E at *
  have hde : ((d : Int) * e) ≠ 0 := Int.mul_ne_zero (by omega) (by omega)
  refine Int.eq_of_mul_eq_mul_right hde ?_
  have a1 : n * E * (d * e) = z * D * E * e := by rw [← h1]; ac_rfl
  have a2 : m * D * (d * e) = y * E * D * d := by rw [← h2]; ac_rfl
  rw [a1, a2, show z * D * E * e = z * e * (D * E) by ac_rfl, h]
  ac_rfl
/-- the sum of a fraction in lowest terms and a whole number -/
theorem low_sum {Z X : Int} {D : Nat} (hD : 0 < D) : (lowN Z D * ((1 : Nat) : Int) + X * (lowD Z D : Int)) * D = (Z + X * D) * (lowD Z D * 1 : Nat) := by
  have h1 := low_value Z D
  generalize lowN Z D = n at *
  generalize lowD Z D = E at *
  rw [Nat.mul_one, Int.natCast_one, Int.mul_one, Int.add_mul, h1, Int.add_mul]
  ac_rfl
end RatM
namespace Go.Proofs.Ytoahcjjndjdljaa.MeW
open Go.RowKit
open KM PtM OrM PtW OrW MeM RatM WideM WideV WideW SignM SignW RatW DigM
set_option maxRecDepth 100000 in
@[simp] theorem fieldMag (s : Bool) (n : Nat) (w : World) : (Instr.field 39 (.agg (ic s n)) 1).run Try.prog w = .ok (wv n) w :=
  run_field (by kernel_rfl) (tf := 37) (o := 1) (by kernel_rfl) (fun w => part_row (by rw [cells_size]; exact rowW) (by kernel_rfl) w) w
/-- a fraction in lowest terms -/
def frV (Z : Int) (D : Nat) : Value := rv (ng (lowN Z D)) (lowN Z D).natAbs (lowD Z D)
theorem lowV_fr {Z : Int} {D : Nat} (hD : 0 < D) : lowV (ng Z) Z.natAbs D = frV Z D := by
  have hg := gcd_pos (z := Z) hD
  have hN : sg (ng Z) (Z.natAbs / Nat.gcd Z.natAbs D) = lowN Z D := by
    have h1 := lowN_mul (z := Z) (d := D)
    have h2 := Nat.div_mul_cancel (Nat.gcd_dvd_left Z.natAbs D)
    have h3 := sg_ng Z
    unfold lowN at *
    generalize Nat.gcd Z.natAbs D = g at *
    generalize Z.natAbs / g = k at *
    have h4 : sg (ng Z) k * (g : Int) = Z := by
      rw [← h2] at h3
      refine Eq.trans ?_ h3
      cases ng Z <;> simp [sg, Int.neg_mul]
    refine Int.eq_of_mul_eq_mul_right (show (g : Int) ≠ 0 by omega) ?_
    rw [h4, h1]
  unfold frV
  show rv (ng (sg (ng Z) (Z.natAbs / Nat.gcd Z.natAbs D))) (sg (ng Z) (Z.natAbs / Nat.gcd Z.natAbs D)).natAbs (D / Nat.gcd Z.natAbs D) = _
  rw [hN]
  rfl
theorem bl_le {n k : Nat} (h : n < 2 ^ k) : bl n ≤ k := by
  have hb := (bl_BL n).2
  generalize bl n = j at *
  refine Nat.le_of_not_lt fun hl => ?_
  have h1 := hb (by omega)
  have h2 : 2 ^ k ≤ 2 ^ (j - 1) := Nat.pow_le_pow_right (by omega) (by omega)
  omega
theorem pow_M {n k : Nat} (h : n < 2 ^ k) (hk : k ≤ 512) : n < M := by
  obtain ⟨e, he⟩ : ∃ e, e = 512 := ⟨_, rfl⟩
  rw [M_two e he]
  exact Nat.lt_of_lt_of_le h (Nat.pow_le_pow_right (by decide) (by omega))
/-- a fraction in lowest terms may be -/
theorem fr_may {z : Int} {d : Nat} (h : Terms z d) (hz : z.natAbs < 2 ^ 120) (hd : d < 2 ^ 120) : mayB (ng z) z.natAbs d = true := by
  unfold mayB smallB termsB
  rw [Bool.and_eq_true]
  refine ⟨decide_eq_true ⟨bl_le hz, bl_le hd⟩, decide_eq_true ⟨by have := h.1; omega, ?_, h.2⟩⟩
  have := ng_sg (ng z) z.natAbs
  rw [sg_ng] at this
  exact this.symm
theorem lowN_le {Z : Int} {D : Nat} : (lowN Z D).natAbs ≤ Z.natAbs := by rw [lowN_abs]; exact Nat.div_le_self _ _
theorem lowD_le {Z : Int} {D : Nat} : lowD Z D ≤ D := Nat.div_le_self _ _
set_option maxRecDepth 100000 in
set_option maxHeartbeats 6400000 in
theorem rpart9_any (b N D : _) (hb : -1073741824 ≤ b ∧ b ≤ 1073741824) (hN : N ≤ D) (hD : 0 < D) (hD' : D ≤ 9223372036854775807) (w : World) :
    Calls Try.prog 13 #[.int .i64 b, .int .i64 ((N : Nat) : Int), .int .i64 ((D : Nat) : Int)] w (Ret (frV (b * N) D) w) := by
  have hn : ∀ n : Nat, n ≤ 9223372036854775808 → n < M := fun n h => pow_M (k := 64) (by omega) (by omega)
  have hf : (b * (N : Int)).natAbs < M := by
    rw [Int.natAbs_mul, Int.natAbs_natCast]
    have : b.natAbs * N ≤ 1073741824 * 9223372036854775807 := Nat.mul_le_mul (by omega) (by omega)
    exact pow_M (k := 100) (by omega) (by omega)
  have H1 := fun w => SignW.rof_any b (by omega) (by omega) w
  have H2 := fun w => SignW.rof_any N (by omega) (by omega) w
  have H3 := fun w => SignW.rof_any D (by omega) (by omega) w
  have H4 := fun w => rmul_nv (x := b) (y := N) (Lib.hid (hn _ (by omega))) (Lib.hid (hn _ (by omega))) w
  rw [fv_fit hf] at H4
  have H5 := fun w => reflow_any (ng (b * N)) (b * (N : Int)).natAbs D (Lib.hid hf) (Lib.hid (hn _ (by omega))) hD w
  rw [lowV_fr hD] at H5
  unfold frV at *
  unfold nv at *
  rw [show ng (D : Int) = false from decide_eq_false (by omega), Int.natAbs_natCast] at H3
  generalize ng (lowN (b * N) D) = s0 at *
  generalize (lowN (b * N) D).natAbs = m0 at *
  generalize lowD (b * N) D = e0 at *
  generalize ng (b * N) = s1 at *
  generalize (b * (N : Int)).natAbs = m1 at *
  generalize ng b = s2 at *
  generalize b.natAbs = m2 at *
  generalize ng (N : Int) = s3 at *
  generalize (N : Int).natAbs = m3 at *
  clear hn hf hb hN hD hD'
  generalize (N : Int) = N' at *
  generalize (D : Int) = D' at *
  replace H1 := Lib.hid H1
  replace H2 := Lib.hid H2
  replace H3 := Lib.hid H3
  replace H4 := Lib.hid H4
  replace H5 := Lib.hid H5
  refine enter fun u => ?_
  go_enter Try.func13, Try.ntmps13
  go_wp2_with (first
    | ((with_reducible refine ls_skip ?_ ?_); (exact rfl); (try simp only [Act.put, List.setIfInBounds_toArray, List.set_cons_succ, List.set_cons_zero]))
    | ((with_reducible refine ck_alloc ?_); refine ls_alloc inferInstance fun _ _ => ?_)
    | ((with_reducible refine ck_load ?_); first | refine ls_load rfl inferInstance inferInstance ?_ | refine ls_cell rfl inferInstance inferInstance ?_)
    | ((with_reducible refine ck_store ?_); refine ls_store rfl rfl inferInstance inferInstance inferInstance fun _ => ?_)
    | (go_at_call 14; (with_reducible refine (H1.out _).mono ?_); rintro e w' ⟨rfl, hb'⟩; obtain ⟨_, rfl⟩ := KW.go _ hb'; clear hb')
    | (go_at_call 14; (with_reducible refine (H2.out _).mono ?_); rintro e w' ⟨rfl, hb'⟩; obtain ⟨_, rfl⟩ := KW.go _ hb'; clear hb')
    | (go_at_call 27; (with_reducible refine (H4.out _).mono ?_); rintro e w' ⟨rfl, hb'⟩; obtain ⟨_, rfl⟩ := KW.go _ hb'; clear hb'))
  refine region_mixS [.take 0, .take 1, .take 2, .take 3, .take 4, .sole 5] _ (Sub.both (h := Sub.skip (h := Sub.nil))) (by kernel_rfl) (by kernel_rfl) ?_
  simp only [picksM, Mv.pick, List.filterMap_cons, List.filterMap_nil, List.getElem?_cons_zero, List.getElem?_cons_succ, Option.map_some]
  refine MM.out ?_
  repeat (first
    | ((with_reducible apply mm_load); exact rfl; infer_instance; infer_instance; (try simp only [Act.put, List.setIfInBounds_toArray, List.set_cons_succ, List.set_cons_zero]))
    | ((with_reducible apply mm_cell); exact rfl; infer_instance; infer_instance; (try simp only [Act.put, List.setIfInBounds_toArray, List.set_cons_succ, List.set_cons_zero]))
    | ((with_reducible apply mm_callf (f := 14)); (intro _; go_simp; try exact rfl); (with_reducible exact fun _ u => H3.out _); (try simp only [Act.put, List.setIfInBounds_toArray, List.set_cons_succ, List.set_cons_zero]))
    | ((with_reducible apply mo_callf (f := 14)); infer_instance; (intro _; go_simp; try exact rfl); (with_reducible exact fun u => H3.out _); (try simp only [Act.put, List.setIfInBounds_toArray, List.set_cons_succ, List.set_cons_zero]))
    | ((with_reducible apply mm_callf (f := 28)); (intro _; go_simp; try exact rfl); (with_reducible exact fun _ u => H5.out _); (try simp only [Act.put, List.setIfInBounds_toArray, List.set_cons_succ, List.set_cons_zero]))
    | ((with_reducible apply mo_callf (f := 28)); infer_instance; (intro _; go_simp; try exact rfl); (with_reducible exact fun u => H5.out _); (try simp only [Act.put, List.setIfInBounds_toArray, List.set_cons_succ, List.set_cons_zero]))
    | ((with_reducible apply mm_value); (intro _; go_simp; try exact rfl); (try simp only [Act.put, List.setIfInBounds_toArray, List.set_cons_succ, List.set_cons_zero]))
    | ((with_reducible apply mo_store); exact rfl; exact rfl; infer_instance; infer_instance; infer_instance; infer_instance; (try simp only [Act.put, List.setIfInBounds_toArray, List.set_cons_succ, List.set_cons_zero]))
    | ((with_reducible apply mo_put); exact rfl; exact rfl; infer_instance; infer_instance; infer_instance; infer_instance; (try simp only [Act.put, List.setIfInBounds_toArray, List.set_cons_succ, List.set_cons_zero]))
    | ((with_reducible apply mo_alloc); infer_instance; infer_instance; intro _; (try simp only [Act.put, List.setIfInBounds_toArray, List.set_cons_succ, List.set_cons_zero]))
    | ((with_reducible apply mo_three); (decide); (decide); infer_instance; infer_instance; infer_instance; intro _ _ _; (try simp only [Act.put, List.setIfInBounds_toArray, List.set_cons_succ, List.set_cons_zero]))
    | ((with_reducible apply mo_four); (decide); (decide); infer_instance; infer_instance; infer_instance; infer_instance; intro _ _ _ _; (try simp only [Act.put, List.setIfInBounds_toArray, List.set_cons_succ, List.set_cons_zero]))
    | ((with_reducible apply mo_two); infer_instance; infer_instance; (decide); intro _ _; (try simp only [Act.put, List.setIfInBounds_toArray, List.set_cons_succ, List.set_cons_zero]))
    | ((with_reducible apply mo_load); infer_instance; exact rfl; infer_instance; infer_instance; (try simp only [Act.put, List.setIfInBounds_toArray, List.set_cons_succ, List.set_cons_zero]))
    | ((with_reducible apply mo_cell); infer_instance; exact rfl; infer_instance; infer_instance; (try simp only [Act.put, List.setIfInBounds_toArray, List.set_cons_succ, List.set_cons_zero]))
    | ((with_reducible apply mo_value); infer_instance; (intro _; go_simp; try exact rfl); (try simp only [Act.put, List.setIfInBounds_toArray, List.set_cons_succ, List.set_cons_zero])))
  refine mm_nil fun u7 => ?_
  go_wp2_with (fail)
  exact bd_cell Try.results13 rfl inferInstance inferInstance ⟨rfl, KW.below _⟩
end Go.Proofs.Ytoahcjjndjdljaa.MeW
