/-
  package ratio: order, sum, product, floor, part: contracts over the translation.
-/
import Derived.Test.YtpcbnciihohdjaaRatFn
namespace Go.Proofs.Ytpcbnciihohdjaa.RatW
open Go.RowKit
open DigM WideM WideV KM DigW WideW QuotW QuotM DecM FmtW SignM SignW
def T : Nat := 1329227995784915872903807060280344576
theorem T_M : T * T + T * T < M := by rw [M_two 512 rfl]; unfold T; decide +kernel
theorem T_TM : (T + 1) * T + T < M := by rw [M_two 512 rfl]; unfold T; decide +kernel
theorem T_lt {n : Nat} (h : n < T) : n < M := Nat.lt_trans h (by rw [M_two 512 rfl]; unfold T; decide +kernel)
theorem T_mul {a b : Nat} (ha : a < T) (hb : b < T) : a * b < T * T := by
  rcases Nat.eq_zero_or_pos b with rfl | h
  · rw [Nat.mul_zero]; unfold T; omega
  · exact Nat.lt_of_lt_of_le (Nat.mul_lt_mul_of_pos_right ha h) (Nat.mul_le_mul_left T (Nat.le_of_lt hb))
theorem bl_T {n : Nat} (h : bl n ≤ 120) : n < T := by
  have := bl_BL n
  have hp : 2 ^ bl n ≤ 2 ^ 120 := Nat.pow_le_pow_right (by omega) h
  have hT : T = 2 ^ 120 := by unfold T; decide +kernel
  rw [hT]
  exact Nat.lt_of_lt_of_le this.1 hp
theorem may_parts {s : Bool} {n d : Nat} (h : mayB s n d = true) : n < T ∧ d < T ∧ d ≠ 0 ∧ ng (sg s n) = s ∧ Nat.gcd n d = 1 := by
  unfold mayB smallB termsB at h
  rw [Bool.and_eq_true, decide_eq_true_eq, decide_eq_true_eq] at h
  obtain ⟨⟨h1, h2⟩, h3, h4, h5⟩ := h
  exact ⟨bl_T h1, bl_T h2, h3, by rw [ng_sg]; exact h4, h5⟩
theorem rv_nv {s : Bool} {n d : Nat} (h : ng (sg s n) = s) : rv s n d = rv (ng (sg s n)) (sg s n).natAbs d := by rw [h, sg_abs]
set_option maxRecDepth 100000 in
set_option maxHeartbeats 3200000 in
theorem rtimes_any (s : Bool) (a b : Nat) (ha : Hid (a < M)) (hb : Hid (b < M)) (hf : a * b < M) (w : World) : Calls Try.prog 39 #[iv s a, wv b] w (Ret (nv (sg s a * b)) w) := by
  have HM := fun w => smul_any s false a b ha hb w
  rw [sg_f, fv_fit (by rw [Int.natAbs_mul, sg_abs, Int.natAbs_natCast]; exact hf)] at HM
  unfold nv at *
  generalize ng (sg s a * b) = p at *
  generalize (sg s a * b).natAbs = m at *
  replace HM := Lib.hid HM
  clear hf
  refine enter fun u => ?_
  go_enter Try.func39, Try.ntmps39
  go_wp2_with (first
    | ((with_reducible apply list_box); exact rfl; intro _ _)
    | ((with_reducible apply ls_alloc); infer_instance; intro _ _)
    | ((with_reducible apply ls_load); exact rfl; infer_instance; infer_instance)
    | ((with_reducible apply ls_store); exact rfl; exact rfl; infer_instance; infer_instance; infer_instance; intro _)
    | ((with_reducible apply ls_I1); exact rfl)
    | (go_at_call 41; (with_reducible refine (HM.out _).mono ?_); rintro e w' ⟨rfl, hb'⟩; obtain ⟨_, rfl⟩ := KW.go _ hb'; clear hb'))
  exact bd_cell Try.results39 rfl inferInstance inferInstance ⟨rfl, KW.below _⟩
section
variable (s t : Bool) (a b d e : Nat) (ha : Hid (a < M)) (hb : Hid (b < M)) (hd : Hid (d < M)) (he : Hid (e < M))
include ha hb hd he
set_option maxRecDepth 100000 in
set_option maxHeartbeats 3200000 in
theorem fcmp_no (h : (mayB s a d && mayB t b e) = false) (w : World) : Calls Try.prog 16 #[rv s a d, rv t b e] w (Ret (.tuple #[.int .i64 0, .int .i64 1]) w) := by
  have HA := fun w => rmay_any s a d ha hd w
  have HB := fun w => rmay_any t b e hb he w
  generalize mayB s a d = p at *
  generalize mayB t b e = q at *
  replace HA := Lib.hid HA
  replace HB := Lib.hid HB
  cases p <;> cases q
  all_goals first | (exfalso; revert h; decide; done) | skip
  all_goals (
    refine enter fun u => ?_
    go_enter Try.func16, Try.ntmps16
    go_wp2_with (first
      | ((with_reducible apply list_box); exact rfl; intro _ _)
      | ((with_reducible apply ls_load); exact rfl; infer_instance; infer_instance)
      | ((with_reducible apply lsg_load); rfl; exact rfl; infer_instance; infer_instance)
      | (go_at_call 12; (with_reducible refine (HA.out _).mono ?_); rintro e w' ⟨rfl, hb'⟩; obtain ⟨_, rfl⟩ := KW.go _ hb'; clear hb')
      | (go_at_call 12; (with_reducible refine (HB.out _).mono ?_); rintro e w' ⟨rfl, hb'⟩; obtain ⟨_, rfl⟩ := KW.go _ hb'; clear hb'))
    go_ret2
    exact ⟨rfl, KW.below _⟩)
set_option maxRecDepth 100000 in
set_option maxHeartbeats 3200000 in
theorem fadd_no (h : (mayB s a d && mayB t b e) = false) (w : World) : Calls Try.prog 14 #[rv s a d, rv t b e] w (Ret (.tuple #[rv false 0 0, .int .i64 1]) w) := by
  have HA := fun w => rmay_any s a d ha hd w
  have HB := fun w => rmay_any t b e hb he w
  generalize mayB s a d = p at *
  generalize mayB t b e = q at *
  replace HA := Lib.hid HA
  replace HB := Lib.hid HB
  cases p <;> cases q
  all_goals first | (exfalso; revert h; decide; done) | skip
  all_goals (
    refine enter fun u => ?_
    go_enter Try.func14, Try.ntmps14
    go_wp2_with (first
      | ((with_reducible apply list_box); exact rfl; intro _ _)
      | ((with_reducible apply ls_alloc); infer_instance; intro _ _)
      | ((with_reducible apply ls_load); exact rfl; infer_instance; infer_instance)
      | ((with_reducible apply lsg_load); rfl; exact rfl; infer_instance; infer_instance)
      | ((with_reducible apply ls_store); exact rfl; exact rfl; infer_instance; infer_instance; infer_instance; intro _)
      | ((with_reducible apply ls_Ratio_))
      | (go_at_call 12; (with_reducible refine (HA.out _).mono ?_); rintro e w' ⟨rfl, hb'⟩; obtain ⟨_, rfl⟩ := KW.go _ hb'; clear hb')
      | (go_at_call 12; (with_reducible refine (HB.out _).mono ?_); rintro e w' ⟨rfl, hb'⟩; obtain ⟨_, rfl⟩ := KW.go _ hb'; clear hb'))
    exact bd_cell_tmp Try.results14 rfl rfl inferInstance inferInstance ⟨rfl, KW.below _⟩)
set_option maxRecDepth 100000 in
set_option maxHeartbeats 3200000 in
theorem fmul_no (h : (mayB s a d && mayB t b e) = false) (w : World) : Calls Try.prog 15 #[rv s a d, rv t b e] w (Ret (.tuple #[rv false 0 0, .int .i64 1]) w) := by
  have HA := fun w => rmay_any s a d ha hd w
  have HB := fun w => rmay_any t b e hb he w
  generalize mayB s a d = p at *
  generalize mayB t b e = q at *
  replace HA := Lib.hid HA
  replace HB := Lib.hid HB
  cases p <;> cases q
  all_goals first | (exfalso; revert h; decide; done) | skip
  all_goals (
    refine enter fun u => ?_
    go_enter Try.func15, Try.ntmps15
    go_wp2_with (first
      | ((with_reducible apply list_box); exact rfl; intro _ _)
      | ((with_reducible apply ls_alloc); infer_instance; intro _ _)
      | ((with_reducible apply ls_load); exact rfl; infer_instance; infer_instance)
      | ((with_reducible apply lsg_load); rfl; exact rfl; infer_instance; infer_instance)
      | ((with_reducible apply ls_store); exact rfl; exact rfl; infer_instance; infer_instance; infer_instance; intro _)
      | ((with_reducible apply ls_Ratio_))
      | (go_at_call 12; (with_reducible refine (HA.out _).mono ?_); rintro e w' ⟨rfl, hb'⟩; obtain ⟨_, rfl⟩ := KW.go _ hb'; clear hb')
      | (go_at_call 12; (with_reducible refine (HB.out _).mono ?_); rintro e w' ⟨rfl, hb'⟩; obtain ⟨_, rfl⟩ := KW.go _ hb'; clear hb'))
    exact bd_cell_tmp Try.results15 rfl rfl inferInstance inferInstance ⟨rfl, KW.below _⟩)
set_option maxRecDepth 100000 in
set_option maxHeartbeats 3200000 in
theorem fcmp_yes (h1 : mayB s a d = true) (h2 : mayB t b e = true) (w : World) : Calls Try.prog 16 #[rv s a d, rv t b e] w (Ret (.tuple #[.int .i64 (cmpZ (sg s a * e - sg t b * d)), .int .i64 0]) w) := by
  have HA := fun w => rmay_any s a d ha hd w
  have HB := fun w => rmay_any t b e hb he w
  rw [h1] at HA
  rw [h2] at HB
  obtain ⟨ha', hd', _⟩ := may_parts h1
  obtain ⟨hb', he', _⟩ := may_parts h2
  have hT := T_M
  have hx : a * e < M := by have := T_mul ha' he'; omega
  have hy : b * d < M := by have := T_mul hb' hd'; omega
  have HX := fun w => rtimes_any s a e ha he hx w
  have HY := fun w => rtimes_any t b d hb hd hy w
  have HC := fun w => scmp_any (x := sg s a * e) (y := sg t b * d) (Lib.hid (by rw [Int.natAbs_mul, sg_abs, Int.natAbs_natCast]; exact hx)) (Lib.hid (by rw [Int.natAbs_mul, sg_abs, Int.natAbs_natCast]; exact hy)) w
  unfold nv at *
  generalize cmpZ (sg s a * e - sg t b * d) = c at *
  generalize ng (sg s a * e) = p at *
  generalize (sg s a * e).natAbs = m at *
  generalize ng (sg t b * d) = q at *
  generalize (sg t b * d).natAbs = n at *
  replace HA := Lib.hid HA
  replace HB := Lib.hid HB
  replace HX := Lib.hid HX
  replace HY := Lib.hid HY
  replace HC := Lib.hid HC
  clear h1 h2 ha' hd' hb' he' hT hx hy
  refine enter fun u => ?_
  go_enter Try.func16, Try.ntmps16
  go_wp2_with (first
    | ((with_reducible apply list_box); exact rfl; intro _ _)
    | ((with_reducible apply ls_load); exact rfl; infer_instance; infer_instance)
    | ((with_reducible apply lsg_load); rfl; exact rfl; infer_instance; infer_instance)
    | (go_at_call 12; (with_reducible refine (HA.out _).mono ?_); rintro e w' ⟨rfl, hb'⟩; obtain ⟨_, rfl⟩ := KW.go _ hb'; clear hb')
    | (go_at_call 12; (with_reducible refine (HB.out _).mono ?_); rintro e w' ⟨rfl, hb'⟩; obtain ⟨_, rfl⟩ := KW.go _ hb'; clear hb'))
  refine region (by kernel_rfl) (by kernel_rfl) fun _ => ?_
  refine QQ.out ?_
  repeat (first
    | ((with_reducible apply qq_skip); (exact rfl); (try simp only [Act.put, List.setIfInBounds_toArray, List.set_cons_succ, List.set_cons_zero]))
    | ((with_reducible apply qq_load); exact rfl; infer_instance; infer_instance; exact rfl; (try simp only [Act.put, List.setIfInBounds_toArray, List.set_cons_succ, List.set_cons_zero]))
    | ((with_reducible apply qq_cell); exact rfl; infer_instance; infer_instance; exact rfl; (try simp only [Act.put, List.setIfInBounds_toArray, List.set_cons_succ, List.set_cons_zero]))
    | ((with_reducible apply qq_callf (f := 39)); (intro _; go_simp; try exact rfl); (with_reducible exact fun u => HX.out _); exact rfl; (try simp only [Act.put, List.setIfInBounds_toArray, List.set_cons_succ, List.set_cons_zero]))
    | ((with_reducible apply qq_callf (f := 39)); (intro _; go_simp; try exact rfl); (with_reducible exact fun u => HY.out _); exact rfl; (try simp only [Act.put, List.setIfInBounds_toArray, List.set_cons_succ, List.set_cons_zero]))
    | ((with_reducible apply qq_callf (f := 42)); (intro _; go_simp; try exact rfl); (with_reducible exact fun u => HC.out _); exact rfl; (try simp only [Act.put, List.setIfInBounds_toArray, List.set_cons_succ, List.set_cons_zero]))
    | ((with_reducible apply qq_value); (intro _; go_simp; try exact rfl); exact rfl; (try simp only [Act.put, List.setIfInBounds_toArray, List.set_cons_succ, List.set_cons_zero])))
  refine qq_nil ?_
  rintro _ ⟨u7, rfl⟩
  go_wp2_with (fail)
  go_ret2
  exact ⟨rfl, KW.below _⟩
set_option maxRecDepth 100000 in
set_option maxHeartbeats 3200000 in
theorem fadd_yes (h1 : mayB s a d = true) (h2 : mayB t b e = true) (w : World) : Calls Try.prog 14 #[rv s a d, rv t b e] w (Ret (.tuple #[lowV (ng (sg s a * e + sg t b * d)) (sg s a * e + sg t b * d).natAbs (d * e), .int .i64 0]) w) := by
  have HA := fun w => rmay_any s a d ha hd w
  have HB := fun w => rmay_any t b e hb he w
  rw [h1] at HA
  rw [h2] at HB
  obtain ⟨ha', hd', hd0, _⟩ := may_parts h1
  obtain ⟨hb', he', he0, _⟩ := may_parts h2
  have hT := T_M
  have hx : a * e < M := by have := T_mul ha' he'; omega
  have hy : b * d < M := by have := T_mul hb' hd'; omega
  have hde : d * e < M := by have := T_mul hd' he'; omega
  have hx' : (sg s a * e).natAbs < M := by rw [Int.natAbs_mul, sg_abs, Int.natAbs_natCast]; exact hx
  have hy' : (sg t b * d).natAbs < M := by rw [Int.natAbs_mul, sg_abs, Int.natAbs_natCast]; exact hy
  have hs : (sg s a * e + sg t b * d).natAbs < M := by
    have l1 := T_mul ha' he'
    have l2 := T_mul hb' hd'
    have := Int.natAbs_add_le (sg s a * e) (sg t b * d)
    rw [Int.natAbs_mul, Int.natAbs_mul, sg_abs, sg_abs, Int.natAbs_natCast, Int.natAbs_natCast] at this
    omega
  have HX := fun w => rtimes_any s a e ha he hx w
  have HY := fun w => rtimes_any t b d hb hd hy w
  have HS := fun w => sadd_nv (x := sg s a * e) (y := sg t b * d) (Lib.hid hx') (Lib.hid hy') w
  rw [fv_fit hs] at HS
  have HD := fun w => wmul_fit d e hd he hde w
  have HL := fun w => rlowest_any (ng (sg s a * e + sg t b * d)) (sg s a * e + sg t b * d).natAbs (d * e) (Lib.hid hs) (Lib.hid hde) (Nat.pos_of_ne_zero (Nat.mul_ne_zero hd0 he0)) w
  obtain ⟨p, m, y, hV⟩ : ∃ p m y, lowV (ng (sg s a * e + sg t b * d)) (sg s a * e + sg t b * d).natAbs (d * e) = rv p m y := ⟨_, _, _, rfl⟩
  rw [hV] at HL ⊢
  clear hV
  unfold nv at *
  generalize sg s a * e + sg t b * d = S at *
  generalize sg s a * e = X at *
  generalize sg t b * d = Y at *
  generalize ng S = p1 at *
  generalize S.natAbs = m1 at *
  generalize ng X = p2 at *
  generalize X.natAbs = m2 at *
  generalize ng Y = p3 at *
  generalize Y.natAbs = m3 at *
  generalize d * e = D at *
  replace HA := Lib.hid HA
  replace HB := Lib.hid HB
  replace HX := Lib.hid HX
  replace HY := Lib.hid HY
  replace HS := Lib.hid HS
  replace HD := Lib.hid HD
  replace HL := Lib.hid HL
  clear h1 h2 ha' hd' hb' he' hT hx hy hde hx' hy' hs hd0 he0
  refine enter fun u => ?_
  go_enter Try.func14, Try.ntmps14
  go_wp2_with (first
    | ((with_reducible apply list_box); exact rfl; intro _ _)
    | ((with_reducible apply ls_alloc); infer_instance; intro _ _)
    | ((with_reducible apply ls_load); exact rfl; infer_instance; infer_instance)
    | ((with_reducible apply lsg_load); rfl; exact rfl; infer_instance; infer_instance)
    | ((with_reducible apply ls_store); exact rfl; exact rfl; infer_instance; infer_instance; infer_instance; intro _)
    | (go_at_call 12; (with_reducible refine (HA.out _).mono ?_); rintro e w' ⟨rfl, hb'⟩; obtain ⟨_, rfl⟩ := KW.go _ hb'; clear hb')
    | (go_at_call 12; (with_reducible refine (HB.out _).mono ?_); rintro e w' ⟨rfl, hb'⟩; obtain ⟨_, rfl⟩ := KW.go _ hb'; clear hb'))
  refine region_mixS [.take 0, .take 1, .take 2, .take 3, .take 4, .take 5, .take 6, .take 7, .take 8, .take 9, .take 10, .take 11, .take 12, .take 13, .sole 14, .sole 15, .take 16] _ (Sub.both (h := Sub.both (h := Sub.both (h := Sub.nil)))) (by kernel_rfl) (by kernel_rfl) ?_
  simp only [picksM, Mv.pick, List.filterMap_cons, List.filterMap_nil, List.getElem?_cons_zero, List.getElem?_cons_succ, Option.map_some]
  refine MM.out ?_
  repeat (first
    | ((with_reducible apply mm_load); exact rfl; infer_instance; infer_instance; (try simp only [Act.put, List.setIfInBounds_toArray, List.set_cons_succ, List.set_cons_zero]))
    | ((with_reducible apply mm_cell); exact rfl; infer_instance; infer_instance; (try simp only [Act.put, List.setIfInBounds_toArray, List.set_cons_succ, List.set_cons_zero]))
    | ((with_reducible apply mm_callf (f := 39)); (intro _; go_simp; try exact rfl); (with_reducible exact fun _ u => HX.out _); (try simp only [Act.put, List.setIfInBounds_toArray, List.set_cons_succ, List.set_cons_zero]))
    | ((with_reducible apply mo_callf (f := 39)); infer_instance; (intro _; go_simp; try exact rfl); (with_reducible exact fun u => HX.out _); (try simp only [Act.put, List.setIfInBounds_toArray, List.set_cons_succ, List.set_cons_zero]))
    | ((with_reducible apply mm_callf (f := 39)); (intro _; go_simp; try exact rfl); (with_reducible exact fun _ u => HY.out _); (try simp only [Act.put, List.setIfInBounds_toArray, List.set_cons_succ, List.set_cons_zero]))
    | ((with_reducible apply mo_callf (f := 39)); infer_instance; (intro _; go_simp; try exact rfl); (with_reducible exact fun u => HY.out _); (try simp only [Act.put, List.setIfInBounds_toArray, List.set_cons_succ, List.set_cons_zero]))
    | ((with_reducible apply mm_callf (f := 38)); (intro _; go_simp; try exact rfl); (with_reducible exact fun _ u => HS.out _); (try simp only [Act.put, List.setIfInBounds_toArray, List.set_cons_succ, List.set_cons_zero]))
    | ((with_reducible apply mo_callf (f := 38)); infer_instance; (intro _; go_simp; try exact rfl); (with_reducible exact fun u => HS.out _); (try simp only [Act.put, List.setIfInBounds_toArray, List.set_cons_succ, List.set_cons_zero]))
    | ((with_reducible apply mm_value); (intro _; go_simp; try exact rfl); (try simp only [Act.put, List.setIfInBounds_toArray, List.set_cons_succ, List.set_cons_zero]))
    | ((with_reducible apply mo_store); exact rfl; exact rfl; infer_instance; infer_instance; infer_instance; infer_instance; (try simp only [Act.put, List.setIfInBounds_toArray, List.set_cons_succ, List.set_cons_zero]))
    | ((with_reducible apply mo_put); exact rfl; exact rfl; infer_instance; infer_instance; infer_instance; infer_instance; (try simp only [Act.put, List.setIfInBounds_toArray, List.set_cons_succ, List.set_cons_zero]))
    | ((with_reducible apply mo_alloc); infer_instance; infer_instance; intro _; (try simp only [Act.put, List.setIfInBounds_toArray, List.set_cons_succ, List.set_cons_zero]))
    | ((with_reducible apply mo_two); infer_instance; infer_instance; (decide); intro _ _; (try simp only [Act.put, List.setIfInBounds_toArray, List.set_cons_succ, List.set_cons_zero]))
    | ((with_reducible apply mo_load); infer_instance; exact rfl; infer_instance; infer_instance; (try simp only [Act.put, List.setIfInBounds_toArray, List.set_cons_succ, List.set_cons_zero]))
    | ((with_reducible apply mo_cell); infer_instance; exact rfl; infer_instance; infer_instance; (try simp only [Act.put, List.setIfInBounds_toArray, List.set_cons_succ, List.set_cons_zero]))
    | ((with_reducible apply mo_value); infer_instance; (intro _; go_simp; try exact rfl); (try simp only [Act.put, List.setIfInBounds_toArray, List.set_cons_succ, List.set_cons_zero])))
  refine mm_nil fun u7 => ?_
  go_wp2_with (first
    | ((with_reducible apply ls_alloc); infer_instance; intro _ _)
    | ((with_reducible apply ls_load); exact rfl; infer_instance; infer_instance)
    | ((with_reducible apply ls_store); exact rfl; exact rfl; infer_instance; infer_instance; infer_instance; intro _)
    | (go_at_call 40; (with_reducible refine (HD.out _).mono ?_); rintro e w' ⟨rfl, hb'⟩; obtain ⟨_, rfl⟩ := KW.go _ hb'; clear hb')
    | (go_at_call 28; (with_reducible refine (HL.out _).mono ?_); rintro e w' ⟨rfl, hb'⟩; obtain ⟨_, rfl⟩ := KW.go _ hb'; clear hb'))
  exact bd_cell_tmp Try.results14 rfl rfl inferInstance inferInstance ⟨rfl, KW.below _⟩
set_option maxRecDepth 100000 in
set_option maxHeartbeats 3200000 in
theorem fmul_yes (h1 : mayB s a d = true) (h2 : mayB t b e = true) (w : World) : Calls Try.prog 15 #[rv s a d, rv t b e] w (Ret (.tuple #[lowV (ng (sg s a * sg t b)) (sg s a * sg t b).natAbs (d * e), .int .i64 0]) w) := by
  have HA := fun w => rmay_any s a d ha hd w
  have HB := fun w => rmay_any t b e hb he w
  rw [h1] at HA
  rw [h2] at HB
  obtain ⟨ha', hd', hd0, _⟩ := may_parts h1
  obtain ⟨hb', he', he0, _⟩ := may_parts h2
  have hT := T_M
  have hx : a * b < M := by have := T_mul ha' hb'; omega
  have hde : d * e < M := by have := T_mul hd' he'; omega
  have hx' : (sg s a * sg t b).natAbs < M := by rw [Int.natAbs_mul, sg_abs, sg_abs]; exact hx
  have HS := fun w => smul_any s t a b ha hb w
  rw [fv_fit hx'] at HS
  have HD := fun w => wmul_fit d e hd he hde w
  have HL := fun w => rlowest_any (ng (sg s a * sg t b)) (sg s a * sg t b).natAbs (d * e) (Lib.hid hx') (Lib.hid hde) (Nat.pos_of_ne_zero (Nat.mul_ne_zero hd0 he0)) w
  obtain ⟨p, m, y, hV⟩ : ∃ p m y, lowV (ng (sg s a * sg t b)) (sg s a * sg t b).natAbs (d * e) = rv p m y := ⟨_, _, _, rfl⟩
  rw [hV] at HL ⊢
  clear hV
  unfold nv at *
  generalize sg s a * sg t b = S at *
  generalize ng S = p1 at *
  generalize S.natAbs = m1 at *
  generalize d * e = D at *
  replace HA := Lib.hid HA
  replace HB := Lib.hid HB
  replace HS := Lib.hid HS
  replace HD := Lib.hid HD
  replace HL := Lib.hid HL
  clear h1 h2 ha' hd' hb' he' hT hx hde hx' hd0 he0
  refine enter fun u => ?_
  go_enter Try.func15, Try.ntmps15
  go_wp2_with (first
    | ((with_reducible apply list_box); exact rfl; intro _ _)
    | ((with_reducible apply ls_alloc); infer_instance; intro _ _)
    | ((with_reducible apply ls_load); exact rfl; infer_instance; infer_instance)
    | ((with_reducible apply lsg_load); rfl; exact rfl; infer_instance; infer_instance)
    | ((with_reducible apply ls_store); exact rfl; exact rfl; infer_instance; infer_instance; infer_instance; intro _)
    | (go_at_call 12; (with_reducible refine (HA.out _).mono ?_); rintro e w' ⟨rfl, hb'⟩; obtain ⟨_, rfl⟩ := KW.go _ hb'; clear hb')
    | (go_at_call 12; (with_reducible refine (HB.out _).mono ?_); rintro e w' ⟨rfl, hb'⟩; obtain ⟨_, rfl⟩ := KW.go _ hb'; clear hb')
    | (go_at_call 41; (with_reducible refine (HS.out _).mono ?_); rintro e w' ⟨rfl, hb'⟩; obtain ⟨_, rfl⟩ := KW.go _ hb'; clear hb')
    | (go_at_call 40; (with_reducible refine (HD.out _).mono ?_); rintro e w' ⟨rfl, hb'⟩; obtain ⟨_, rfl⟩ := KW.go _ hb'; clear hb')
    | (go_at_call 28; (with_reducible refine (HL.out _).mono ?_); rintro e w' ⟨rfl, hb'⟩; obtain ⟨_, rfl⟩ := KW.go _ hb'; clear hb'))
  exact bd_cell_tmp Try.results15 rfl rfl inferInstance inferInstance ⟨rfl, KW.below _⟩
end
set_option maxRecDepth 100000 in
set_option maxHeartbeats 3200000 in
theorem floor_no (s : Bool) (n d : Nat) (hn : Hid (n < M)) (hd : Hid (d < M)) (h : termsB s n d = false) (w : World) : Calls Try.prog 17 #[rv s n d] w (Ret (.tuple #[iv false 0, .int .i64 1]) w) := by
  have HL := fun w => rlow_any s n d hn hd w
  rw [h] at HL
  replace HL := Lib.hid HL
  clear h
  refine enter fun u => ?_
  go_enter Try.func17, Try.ntmps17
  go_wp2_with (first
    | ((with_reducible apply list_box); exact rfl; intro _ _)
    | ((with_reducible apply ls_alloc); infer_instance; intro _ _)
    | ((with_reducible apply ls_load); exact rfl; infer_instance; infer_instance)
    | ((with_reducible apply ls_store); exact rfl; exact rfl; infer_instance; infer_instance; infer_instance; intro _)
    | (with_reducible apply ls_I0)
    | (go_at_call 35; (with_reducible refine (HL.out _).mono ?_); rintro e w' ⟨rfl, hb'⟩; obtain ⟨_, rfl⟩ := KW.go _ hb'; clear hb'))
  exact bd_cell_tmp Try.results17 rfl rfl inferInstance inferInstance ⟨rfl, KW.below _⟩
theorem floor_is (s : Bool) (n d : Nat) (hd : 0 < d) : sg (s != false) (ovq (s != false) n d) = sg s n / (d : Int) := by
  cases s
  · rfl
  · show sg true (ovq true n d) = sg true n / (d : Int)
    rw [sg_t, sg_t, RatM.floor_neg hd]
    unfold ovq
    congr 2
    by_cases h : n % d = 0
    · rw [if_neg (fun hh => hh.2 h), if_pos h]
    · rw [if_pos ⟨rfl, h⟩, if_neg h]
set_option maxRecDepth 100000 in
set_option maxHeartbeats 3200000 in
theorem floor_yes (s : Bool) (n d : Nat) (hn : Hid (n < M)) (hd : Hid (d < M)) (h : termsB s n d = true) (w : World) : Calls Try.prog 17 #[rv s n d] w (Ret (.tuple #[nv (sg s n / (d : Int)), .int .i64 0]) w) := by
  have hd0 : 0 < d := by unfold termsB at h; have := (of_decide_eq_true h).1; omega
  have HL := fun w => rlow_any s n d hn hd w
  rw [h] at HL
  have HO := fun w => sover_some s false n d hn hd hd0 w
  rw [floor_is s n d hd0] at HO
  unfold nv at *
  generalize sg s n / (d : Int) = z at *
  generalize ng z = p at *
  generalize z.natAbs = m at *
  replace HL := Lib.hid HL
  replace HO := Lib.hid HO
  clear h hd0
  refine enter fun u => ?_
  go_enter Try.func17, Try.ntmps17
  go_wp2_with (first
    | ((with_reducible apply list_box); exact rfl; intro _ _)
    | ((with_reducible apply ls_alloc); infer_instance; intro _ _)
    | ((with_reducible apply ls_load); exact rfl; infer_instance; infer_instance)
    | ((with_reducible apply ls_store); exact rfl; exact rfl; infer_instance; infer_instance; infer_instance; intro _)
    | (with_reducible apply ls_I0)
    | ((with_reducible apply ls_I1); exact rfl)
    | (go_at_call 35; (with_reducible refine (HL.out _).mono ?_); rintro e w' ⟨rfl, hb'⟩; obtain ⟨_, rfl⟩ := KW.go _ hb'; clear hb')
    | (go_at_call 43; (with_reducible refine (HO.out _).mono ?_); rintro e w' ⟨rfl, hb'⟩; obtain ⟨_, rfl⟩ := KW.go _ hb'; clear hb'))
  exact bd_cell_tmp Try.results17 rfl rfl inferInstance inferInstance ⟨rfl, KW.below _⟩
/-- may a part be asked for? -/
def partB (n k d : Int) : Bool := decide (0 ≤ n ∧ 0 ≤ k ∧ 0 < d ∧ k ≤ d)
set_option maxRecDepth 100000 in
set_option maxHeartbeats 3200000 in
theorem part_no (n k d : Int) (h : partB n k d = false) (w : World) : Calls Try.prog 25 #[.int .i64 n, .int .i64 k, .int .i64 d] w (Ret (.tuple #[.int .i64 0, .int .i64 1]) w) := by
  have h := of_decide_eq_false h
  by_cases c1 : n < 0
  · have b1 : decide (n < 0) = true := decide_eq_true c1
    clear h c1
    refine enter fun u => ?_
    go_enter Try.func25, Try.ntmps25
    go_wp2_with (first
      | ((with_reducible apply list_box); exact rfl; intro _ _))
    go_ret2
    exact ⟨rfl, KW.below _⟩
  have b1 : decide (n < 0) = false := decide_eq_false c1
  by_cases c2 : k < 0
  · have b2 : decide (k < 0) = true := decide_eq_true c2
    clear h c1 c2
    refine enter fun u => ?_
    go_enter Try.func25, Try.ntmps25
    go_wp2_with (first
      | ((with_reducible apply list_box); exact rfl; intro _ _))
    go_ret2
    exact ⟨rfl, KW.below _⟩
  have b2 : decide (k < 0) = false := decide_eq_false c2
  by_cases c3 : d ≤ 0
  · have b3 : decide (d ≤ 0) = true := decide_eq_true c3
    clear h c1 c2 c3
    refine enter fun u => ?_
    go_enter Try.func25, Try.ntmps25
    go_wp2_with (first
      | ((with_reducible apply list_box); exact rfl; intro _ _))
    go_ret2
    exact ⟨rfl, KW.below _⟩
  have b3 : decide (d ≤ 0) = false := decide_eq_false c3
  have b4 : decide (d < k) = true := decide_eq_true (by omega)
  clear h c1 c2 c3
  refine enter fun u => ?_
  go_enter Try.func25, Try.ntmps25
  go_wp2_with (first
    | ((with_reducible apply list_box); exact rfl; intro _ _))
  go_ret2
  exact ⟨rfl, KW.below _⟩
theorem part_fits {n k : Nat} (hn : n < 9223372036854775808) (hk : k < 9223372036854775808) : n * k < M ∧ n < M ∧ k < M := by
  have h1 : n * k ≤ 9223372036854775808 * 9223372036854775808 := Nat.mul_le_mul (Nat.le_of_lt hn) (Nat.le_of_lt hk)
  have h2 : 9223372036854775808 * 9223372036854775808 < M := by rw [M_two 512 rfl]; decide +kernel
  have := @m_big
  omega
set_option maxRecDepth 100000 in
set_option maxHeartbeats 3200000 in
theorem part_yes (n k d : Nat) (hn : n ≤ 9223372036854775807) (hd : d ≤ 9223372036854775807) (hd0 : 0 < d) (hk : k ≤ d) (w : World) : Calls Try.prog 25 #[.int .i64 n, .int .i64 k, .int .i64 d] w (Ret (.tuple #[.int .i64 (n * k / d : Nat), .int .i64 0]) w) := by
  obtain ⟨hf, hn', hk'⟩ := @part_fits n k (by omega) (by omega)
  have hd' := (@part_fits d d (by omega) (by omega)).2.1
  have H1 := fun w => sof_any n (by omega) (by omega) w
  have H2 := fun w => sof_any k (by omega) (by omega) w
  have H3 := fun w => sof_any d (by omega) (by omega) w
  have H4 := fun w => smul_any false false n k (Lib.hid hn') (Lib.hid hk') w
  rw [sg_f, sg_f, ← Int.natCast_mul, fv_fit (by rw [Int.natAbs_natCast]; exact hf)] at H4
  have H5 := fun w => sover_some false false (n * k) d (Lib.hid hf) (Lib.hid hd') hd0 w
  have hq : n * k / d ≤ n := RatM.part_le hk
  have hq' : n * k / d < M := Nat.lt_of_le_of_lt hq hn'
  have H6 := fun w => small_any false (n * k / d) (Lib.hid hq') w
  unfold smallV at H6
  rw [sg_f, show inI ((n * k / d : Nat) : Int) = true from decide_eq_true (by generalize n * k / d = q at *; omega), if_pos rfl] at H6
  have e1 : ∀ x : Nat, nv (x : Int) = iv false x := fun x => by
    unfold nv
    rw [show ng (x : Int) = false from decide_eq_false (by omega), Int.natAbs_natCast]
  rw [e1] at H1 H2 H3 H4
  rw [show sg (false != false) (ovq (false != false) (n * k) d) = ((n * k / d : Nat) : Int) from rfl, e1] at H5
  generalize n * k / d = q at *
  generalize n * k = m at *
  have b1 : decide ((n : Int) < 0) = false := decide_eq_false (by omega)
  have b2 : decide ((k : Int) < 0) = false := decide_eq_false (by omega)
  have b3 : decide ((d : Int) ≤ 0) = false := decide_eq_false (by omega)
  have b4 : decide ((d : Int) < k) = false := decide_eq_false (by omega)
  replace H1 := Lib.hid H1
  replace H2 := Lib.hid H2
  replace H3 := Lib.hid H3
  replace H4 := Lib.hid H4
  replace H5 := Lib.hid H5
  replace H6 := Lib.hid H6
  clear hf hn' hk' hd' hq hq' e1 hn hd hd0 hk
  generalize (n : Int) = N at *
  generalize (k : Int) = K at *
  generalize (d : Int) = D at *
  refine enter fun u => ?_
  go_enter Try.func25, Try.ntmps25
  go_wp2_with (first
    | ((with_reducible apply ls_alloc); infer_instance; intro _ _)
    | ((with_reducible apply ls_load); exact rfl; infer_instance; infer_instance)
    | ((with_reducible apply ls_store); exact rfl; exact rfl; infer_instance; infer_instance; infer_instance; intro _)
    | (go_at_call 29; (with_reducible refine (H1.out _).mono ?_); rintro e w' ⟨rfl, hb'⟩; obtain ⟨_, rfl⟩ := KW.go _ hb'; clear hb')
    | (go_at_call 29; (with_reducible refine (H2.out _).mono ?_); rintro e w' ⟨rfl, hb'⟩; obtain ⟨_, rfl⟩ := KW.go _ hb'; clear hb')
    | (go_at_call 41; (with_reducible refine (H4.out _).mono ?_); rintro e w' ⟨rfl, hb'⟩; obtain ⟨_, rfl⟩ := KW.go _ hb'; clear hb'))
  refine region_mixS [.take 0, .take 1, .take 2, .take 3, .take 4, .take 5, .take 6, .sole 7, .sole 8, .take 9] _ (Sub.both (h := Sub.nil)) (by kernel_rfl) (by kernel_rfl) ?_
  simp only [picksM, Mv.pick, List.filterMap_cons, List.filterMap_nil, List.getElem?_cons_zero, List.getElem?_cons_succ, Option.map_some]
  refine MM.out ?_
  repeat (first
    | ((with_reducible apply mm_load); exact rfl; infer_instance; infer_instance; (try simp only [Act.put, List.setIfInBounds_toArray, List.set_cons_succ, List.set_cons_zero]))
    | ((with_reducible apply mm_cell); exact rfl; infer_instance; infer_instance; (try simp only [Act.put, List.setIfInBounds_toArray, List.set_cons_succ, List.set_cons_zero]))
    | ((with_reducible apply mm_callf (f := 29)); (intro _; go_simp; try exact rfl); (with_reducible exact fun _ u => H3.out _); (try simp only [Act.put, List.setIfInBounds_toArray, List.set_cons_succ, List.set_cons_zero]))
    | ((with_reducible apply mo_callf (f := 29)); infer_instance; (intro _; go_simp; try exact rfl); (with_reducible exact fun u => H3.out _); (try simp only [Act.put, List.setIfInBounds_toArray, List.set_cons_succ, List.set_cons_zero]))
    | ((with_reducible apply mm_callf (f := 43)); (intro _; go_simp; try exact rfl); (with_reducible exact fun _ u => H5.out _); (try simp only [Act.put, List.setIfInBounds_toArray, List.set_cons_succ, List.set_cons_zero]))
    | ((with_reducible apply mo_callf (f := 43)); infer_instance; (intro _; go_simp; try exact rfl); (with_reducible exact fun u => H5.out _); (try simp only [Act.put, List.setIfInBounds_toArray, List.set_cons_succ, List.set_cons_zero]))
    | ((with_reducible apply mm_value); (intro _; go_simp; try exact rfl); (try simp only [Act.put, List.setIfInBounds_toArray, List.set_cons_succ, List.set_cons_zero]))
    | ((with_reducible apply mo_store); exact rfl; exact rfl; infer_instance; infer_instance; infer_instance; infer_instance; (try simp only [Act.put, List.setIfInBounds_toArray, List.set_cons_succ, List.set_cons_zero]))
    | ((with_reducible apply mo_put); exact rfl; exact rfl; infer_instance; infer_instance; infer_instance; infer_instance; (try simp only [Act.put, List.setIfInBounds_toArray, List.set_cons_succ, List.set_cons_zero]))
    | ((with_reducible apply mo_alloc); infer_instance; infer_instance; intro _; (try simp only [Act.put, List.setIfInBounds_toArray, List.set_cons_succ, List.set_cons_zero]))
    | ((with_reducible apply mo_two); infer_instance; infer_instance; (decide); intro _ _; (try simp only [Act.put, List.setIfInBounds_toArray, List.set_cons_succ, List.set_cons_zero]))
    | ((with_reducible apply mo_load); infer_instance; exact rfl; infer_instance; infer_instance; (try simp only [Act.put, List.setIfInBounds_toArray, List.set_cons_succ, List.set_cons_zero]))
    | ((with_reducible apply mo_cell); infer_instance; exact rfl; infer_instance; infer_instance; (try simp only [Act.put, List.setIfInBounds_toArray, List.set_cons_succ, List.set_cons_zero]))
    | ((with_reducible apply mo_value); infer_instance; (intro _; go_simp; try exact rfl); (try simp only [Act.put, List.setIfInBounds_toArray, List.set_cons_succ, List.set_cons_zero])))
  refine mm_nil fun u7 => ?_
  go_wp2_with (first
    | ((with_reducible apply ls_load); exact rfl; infer_instance; infer_instance)
    | ((with_reducible apply ls_store); exact rfl; exact rfl; infer_instance; infer_instance; infer_instance; intro _)
    | (go_at_call 50; (with_reducible refine (H6.out _).mono ?_); rintro e w' ⟨rfl, hb'⟩; obtain ⟨_, rfl⟩ := KW.go _ hb'; clear hb'))
  go_ret2
  exact ⟨rfl, KW.below _⟩
end Go.Proofs.Ytpcbnciihohdjaa.RatW
