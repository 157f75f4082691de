/-
  The walk of the law RatioAdds.
-/
import Derived.Test.YtpcbnciihohdjaaRatLaws
namespace Go.Proofs.Ytpcbnciihohdjaa.RatW
open Go.RowKit
open DigM WideM WideV KM DigW WideW QuotW QuotM DecM FmtW SignM SignW
theorem small_T {n : Nat} (h : n < 4 * T) : n < M := Nat.lt_trans h (by rw [M_two 512 rfl]; unfold T; decide +kernel)
/-- a number cut down: what it and the next one make -/
theorem floor_facts (z : Int) (d : Nat) (hz : z.natAbs < T) (hd : d < T) (h0 : d ≠ 0) : ∃ f : Int, z / (d : Int) = f ∧ f.natAbs < T ∧ (f + 1).natAbs < M ∧ (f * d).natAbs < M ∧ ((f + 1) * d).natAbs < M ∧ f * d ≤ z ∧ z < (f + 1) * d := by
  have hl := RatM.floor_low (z := z) (d := d) (by omega)
  have hh := RatM.floor_high (z := z) (d := d) (by omega)
  have hn : (z / (d : Int)).natAbs ≤ z.natAbs := Int.natAbs_ediv_le_natAbs z d
  refine ⟨_, rfl, ?_⟩
  generalize z / (d : Int) = f at *
  rw [Int.add_mul, Int.one_mul] at hh ⊢
  generalize f * (d : Int) = P at *
  refine ⟨by omega, small_T (by omega), small_T (by omega), small_T (by omega), hl, hh⟩
theorem same_is {s t : Bool} {a b d e : Nat} (h1 : mayB s a d = true) (h2 : mayB t b e = true) : (cmpZ (sg s a * e - sg t b * d) == 0) = (s == t && eqB a b && eqB d e) := by
  obtain ⟨_, _, hd, hs, hg⟩ := may_parts h1
  obtain ⟨_, _, he, ht, hk⟩ := may_parts h2
  have hc : cmpZ (sg s a * e - sg t b * d) = 0 ↔ sg s a * e = sg t b * d := by
    generalize sg s a * (e : Int) = X
    generalize sg t b * (d : Int) = Y
    unfold cmpZ
    by_cases c1 : X - Y < 0
    · rw [if_pos c1]; omega
    · rw [if_neg c1]
      by_cases c2 : X - Y = 0
      · rw [if_pos c2]; omega
      · rw [if_neg c2]; omega
  rw [Bool.eq_iff_iff]
  simp only [Bool.and_eq_true, beq_iff_eq, eqB, decide_eq_true_eq]
  rw [hc]
  constructor
  · intro h
    obtain ⟨e1, e2⟩ := RatM.terms_unique (z := sg s a) (y := sg t b) (d := d) (e := e) ⟨by omega, by rw [sg_abs]; exact hg⟩ ⟨by omega, by rw [sg_abs]; exact hk⟩ h
    refine ⟨⟨?_, ?_⟩, e2⟩
    · rw [← hs, ← ht, e1]
    · have := congrArg Int.natAbs e1
      rwa [sg_abs, sg_abs] at this
  · rintro ⟨⟨rfl, rfl⟩, rfl⟩
    rfl
section
variable (s t : Bool) (a b d e : Nat) (ha : Hid (a < M)) (hb : Hid (b < M)) (hd : Hid (d < M)) (he : Hid (e < M))
include ha hb hd he
set_option maxRecDepth 100000 in
set_option maxHeartbeats 6400000 in
theorem ratioAdds_no (h : (mayB s a d && mayB t b e) = false) (w : World) : Calls Try.prog 4 #[rv s a d, rv t b e] w (TrueAt6 w) := by
  have HW := Lib.hid (fun w => awake6_any w)
  have HA := Lib.hid (fun w => fadd_no s t a b d e ha hb hd he h w)
  have HM := Lib.hid (fun w => fmul_no s t a b d e ha hb hd he h w)
  have HC := Lib.hid (fun w => fcmp_no s t a b d e ha hb hd he h w)
  have HT := fun w => refterms_any s a d ha hd w
  have M1 := fun w => refmay_any s a d ha hd w
  have M2 := fun w => refmay_any t b e hb he w
  have key : ∃ n E, Hid (∀ w, Calls Try.prog 17 #[rv s a d] w (Ret (.tuple #[n, .int .i64 E]) w)) ∧ ((termsB s a d = false ∧ n = iv false 0 ∧ E = 1) ∨ (termsB s a d = true ∧ ∃ p m, n = iv p m)) := by
    cases hb : termsB s a d with
    | false => exact ⟨_, _, Lib.hid fun w => floor_no s a d ha hd hb w, Or.inl ⟨rfl, rfl, rfl⟩⟩
    | true => exact ⟨_, _, Lib.hid fun w => floor_yes s a d ha hd hb w, Or.inr ⟨rfl, _, _, rfl⟩⟩
  obtain ⟨n, E, HF, hcase⟩ := key
  have hpt : mayB s a d = true → termsB s a d = true := fun h => by unfold mayB at h; exact (Bool.and_eq_true _ _ ▸ h).2
  generalize mayB s a d = p at *
  generalize mayB t b e = q at *
  generalize termsB s a d = b0 at *
  replace HT := Lib.hid HT
  replace M1 := Lib.hid M1
  replace M2 := Lib.hid M2
  rcases hcase with ⟨rfl, rfl, rfl⟩ | ⟨rfl, pn, mn, rfl⟩
  · cases p
    case true => exact absurd (hpt rfl) (by decide)
    clear hpt h
    refine enter fun u => ?_
    go_enter Try.func4, Try.ntmps4
    go_wp2_with (first
      | ((with_reducible apply list_box); exact rfl; intro _ _)
      | ((with_reducible apply ls_alloc); infer_instance; intro _ _)
      | ((with_reducible apply ls_load); exact rfl; infer_instance; infer_instance)
      | ((with_reducible apply lsg_load); rfl; exact rfl; infer_instance; infer_instance)
      | ((with_reducible apply ls_store); exact rfl; exact rfl; infer_instance; infer_instance; infer_instance; intro _)
      | ((with_reducible apply lsg_I0); rfl)
      | ((with_reducible apply ls_Ratio_))
      | ((with_reducible apply lsg_Ratio_); exact rfl)
      | (go_at_call 14; (with_reducible refine (HA.out _).mono ?_); rintro e w' ⟨rfl, hb'⟩; obtain ⟨_, rfl⟩ := KW.go _ hb'; clear hb')
      | (go_at_call 15; (with_reducible refine (HM.out _).mono ?_); rintro e w' ⟨rfl, hb'⟩; obtain ⟨_, rfl⟩ := KW.go _ hb'; clear hb')
      | (go_at_call 16; (with_reducible refine (HC.out _).mono ?_); rintro e w' ⟨rfl, hb'⟩; obtain ⟨_, rfl⟩ := KW.go _ hb'; clear hb')
      | (go_at_call 17; (with_reducible refine (HF.out _).mono ?_); rintro e w' ⟨rfl, hb'⟩; obtain ⟨_, rfl⟩ := KW.go _ hb'; clear hb')
      | (go_at_call 18; (with_reducible refine (HT.out _).mono ?_); rintro e w' ⟨rfl, hb'⟩; obtain ⟨_, rfl⟩ := KW.go _ hb'; clear hb')
      | (go_at_call 13; (with_reducible refine (M1.out _).mono ?_); rintro e w' ⟨rfl, hb'⟩; obtain ⟨_, rfl⟩ := KW.go _ hb'; clear hb')
      | (go_at_call 13; (with_reducible refine (M2.out _).mono ?_); rintro e w' ⟨rfl, hb'⟩; obtain ⟨_, rfl⟩ := KW.go _ hb'; clear hb')
      | (go_at_call 10; (with_reducible refine (HW.out _).mono ?_); rintro e w' ⟨rfl, hb'⟩; obtain ⟨_, rfl⟩ := KW.go _ hb'; clear hb'))
    go_ret
    exact ⟨rfl, KW.below _⟩
  · clear hpt
    cases p <;> cases q
    all_goals first | (exfalso; revert h; decide; done) | skip
    all_goals (
      clear h
      refine enter fun u => ?_
      go_enter Try.func4, Try.ntmps4
      go_wp2_with (first
        | ((with_reducible apply list_box); exact rfl; intro _ _)
        | ((with_reducible apply ls_alloc); infer_instance; intro _ _)
        | ((with_reducible apply ls_load); exact rfl; infer_instance; infer_instance)
        | ((with_reducible apply lsg_load); rfl; exact rfl; infer_instance; infer_instance)
        | ((with_reducible apply ls_store); exact rfl; exact rfl; infer_instance; infer_instance; infer_instance; intro _)
        | ((with_reducible apply lsg_I0); rfl)
        | ((with_reducible apply ls_Ratio_))
        | ((with_reducible apply lsg_Ratio_); exact rfl)
        | (go_at_call 14; (with_reducible refine (HA.out _).mono ?_); rintro e w' ⟨rfl, hb'⟩; obtain ⟨_, rfl⟩ := KW.go _ hb'; clear hb')
        | (go_at_call 15; (with_reducible refine (HM.out _).mono ?_); rintro e w' ⟨rfl, hb'⟩; obtain ⟨_, rfl⟩ := KW.go _ hb'; clear hb')
        | (go_at_call 16; (with_reducible refine (HC.out _).mono ?_); rintro e w' ⟨rfl, hb'⟩; obtain ⟨_, rfl⟩ := KW.go _ hb'; clear hb')
        | (go_at_call 17; (with_reducible refine (HF.out _).mono ?_); rintro e w' ⟨rfl, hb'⟩; obtain ⟨_, rfl⟩ := KW.go _ hb'; clear hb')
        | (go_at_call 18; (with_reducible refine (HT.out _).mono ?_); rintro e w' ⟨rfl, hb'⟩; obtain ⟨_, rfl⟩ := KW.go _ hb'; clear hb')
        | (go_at_call 13; (with_reducible refine (M1.out _).mono ?_); rintro e w' ⟨rfl, hb'⟩; obtain ⟨_, rfl⟩ := KW.go _ hb'; clear hb')
        | (go_at_call 13; (with_reducible refine (M2.out _).mono ?_); rintro e w' ⟨rfl, hb'⟩; obtain ⟨_, rfl⟩ := KW.go _ hb'; clear hb')
        | (go_at_call 10; (with_reducible refine (HW.out _).mono ?_); rintro e w' ⟨rfl, hb'⟩; obtain ⟨_, rfl⟩ := KW.go _ hb'; clear hb'))
      go_ret
      exact ⟨rfl, KW.below _⟩)
set_option maxRecDepth 100000 in
set_option maxHeartbeats 6400000 in
theorem ratioAdds_yes (h1 : mayB s a d = true) (h2 : mayB t b e = true) (w : World) : Calls Try.prog 4 #[rv s a d, rv t b e] w (TrueAt6 w) := by
  have HW := Lib.hid (fun w => awake6_any w)
  have HA := fun w => fadd_yes s t a b d e ha hb hd he h1 h2 w
  have HM := fun w => fmul_yes s t a b d e ha hb hd he h1 h2 w
  have HC := fun w => fcmp_yes s t a b d e ha hb hd he h1 h2 w
  have RA := fun w => refadd_yes s t a b d e ha hb hd he h1 h2 w
  have RM := fun w => refmul_yes s t a b d e ha hb hd he h1 h2 w
  have hT : termsB s a d = true := by unfold mayB at h1; exact (Bool.and_eq_true _ _ ▸ h1).2
  have HT := fun w => refterms_any s a d ha hd w
  have HF := fun w => floor_yes s a d ha hd hT w
  rw [hT] at HT
  have M1 := fun w => refmay_any s a d ha hd w
  have M2 := fun w => refmay_any t b e hb he w
  rw [h1] at M1
  rw [h2] at M2
  obtain ⟨ha', hd', hd0, hs, hg⟩ := may_parts h1
  obtain ⟨hb', he', he0, ht, hk⟩ := may_parts h2
  have hTM := T_M
  have hx : a * e < M := by have := T_mul ha' he'; omega
  have hy : b * d < M := by have := T_mul hb' hd'; omega
  have hde : d * e < M := by have := T_mul hd' he'; omega
  have hx' : (sg s a * e).natAbs < M := by rw [Int.natAbs_mul, sg_abs, Int.natAbs_natCast]; exact hx
  have hy' : (sg t b * d).natAbs < M := by rw [Int.natAbs_mul, sg_abs, Int.natAbs_natCast]; exact hy
  have hS : (sg s a * e + sg t b * d).natAbs < M := by
    have l1 := T_mul ha' he'
    have l2 := T_mul hb' hd'
    have := Int.natAbs_add_le (sg s a * e) (sg t b * d)
    rw [Int.natAbs_mul, Int.natAbs_mul, sg_abs, sg_abs, Int.natAbs_natCast, Int.natAbs_natCast] at this
    omega
  have hP : (sg s a * sg t b).natAbs < M := by rw [Int.natAbs_mul, sg_abs, sg_abs]; have := T_mul ha' hb'; omega
  obtain ⟨pS, mS, yS, hVS, hmS, hyS⟩ := lowV_is (ng (sg s a * e + sg t b * d)) (sg s a * e + sg t b * d).natAbs (d * e) hS hde
  obtain ⟨pP, mP, yP, hVP, hmP, hyP⟩ := lowV_is (ng (sg s a * sg t b)) (sg s a * sg t b).natAbs (d * e) hP hde
  rw [hVS] at HA RA
  rw [hVP] at HM RM
  have X1 := fun w => cross_any s a d t b e ha he hx w
  have X2 := fun w => cross_any t b e s a d hb hd hy w
  have RC := fun w => rcmp_nv (x := sg s a * e) (y := sg t b * d) (Lib.hid hx') (Lib.hid hy') w
  have heq := fun w => eqlRatio s a d t b e ha.out hd.out hb.out he.out w
  have hc0 := same_is h1 h2
  rw [← hc0] at heq
  clear hc0
  -- what is cut down
  obtain ⟨f, hf, fT, f1M, fdM, f1dM, hlo, hhi⟩ := floor_facts (sg s a) d (by rw [sg_abs]; exact ha') hd' hd0
  rw [hf] at HF
  have O1 := fun w => rof_any 1 (by decide) (by decide) w
  have h1M : (1 : Int).natAbs < M := small_M (by decide)
  have UP := fun w => radd_nv (x := f) (y := 1) (Lib.hid (T_lt fT)) (Lib.hid h1M) w
  rw [fv_fit f1M] at UP
  have LO := fun w => rmul_any (ng f) false f.natAbs d (Lib.hid (T_lt fT)) hd w
  rw [sg_ng, sg_f, fv_fit fdM] at LO
  have HI := fun w => rmul_any (ng (f + 1)) false (f + 1).natAbs d (Lib.hid f1M) hd w
  rw [sg_ng, sg_f, fv_fit f1dM] at HI
  have C1 := fun w => rcmp_any (ng (f * d)) s (f * d).natAbs a (Lib.hid fdM) ha w
  have C2 := fun w => rcmp_any (ng ((f + 1) * d)) s ((f + 1) * d).natAbs a (Lib.hid f1dM) ha w
  rw [sg_ng] at C1 C2
  obtain ⟨c1, hc1, b1⟩ : ∃ c, cmpZ (f * d - sg s a) = c ∧ decide (0 < c) = false := ⟨_, rfl, decide_eq_false (by unfold cmpZ; generalize f * (d : Int) = q at *; generalize sg s a = z at *; split; omega; split <;> omega)⟩
  obtain ⟨c2, hc2, b2⟩ : ∃ c, cmpZ ((f + 1) * d - sg s a) = c ∧ decide (c ≤ 0) = false := ⟨_, rfl, decide_eq_false (by unfold cmpZ; generalize (f + 1) * (d : Int) = q at *; generalize sg s a = z at *; split; omega; split <;> omega)⟩
  rw [hc1] at C1
  rw [hc2] at C2
  clear hc1 hc2 hlo hhi fT f1M fdM f1dM hf h1M
  clear hVS hVP h1 h2 hT ha' hd' hd0 hs hg hb' he' he0 ht hk hTM hx hy hde hx' hy' hS hP
  unfold nv at *
  generalize cmpZ (sg s a * e - sg t b * d) = c at *
  generalize sg s a * e = X at *
  generalize sg t b * d = Y at *
  generalize ng X = pX at *
  generalize X.natAbs = mX at *
  generalize ng Y = pY at *
  generalize Y.natAbs = mY at *
  generalize (f + 1) * d = fd1 at *
  generalize f * d = fd at *
  generalize f + 1 = f1 at *
  generalize ng f = pf at *
  generalize f.natAbs = mf at *
  generalize ng f1 = pf1 at *
  generalize f1.natAbs = mf1 at *
  generalize ng fd = pfd at *
  generalize fd.natAbs = mfd at *
  generalize ng fd1 = pfd1 at *
  generalize fd1.natAbs = mfd1 at *
  generalize hone : ng 1 = p1 at *
  generalize Int.natAbs 1 = m1 at *
  replace HA := Lib.hid HA
  replace HM := Lib.hid HM
  replace HC := Lib.hid HC
  replace RA := Lib.hid RA
  replace RM := Lib.hid RM
  replace HT := Lib.hid HT
  replace HF := Lib.hid HF
  replace M1 := Lib.hid M1
  replace M2 := Lib.hid M2
  replace X1 := Lib.hid X1
  replace X2 := Lib.hid X2
  replace RC := Lib.hid RC
  replace O1 := Lib.hid O1
  replace UP := Lib.hid UP
  replace LO := Lib.hid LO
  replace HI := Lib.hid HI
  replace C1 := Lib.hid C1
  replace C2 := Lib.hid C2
  clear hone
  refine enter fun u => ?_
  go_enter Try.func4, Try.ntmps4
  go_wp2_with (first
    | ((with_reducible apply list_box); exact rfl; intro _ _)
    | ((with_reducible apply ls_alloc); infer_instance; intro _ _)
    | ((with_reducible apply ls_load); exact rfl; infer_instance; infer_instance)
    | ((with_reducible apply lsg_load); rfl; exact rfl; infer_instance; infer_instance)
    | ((with_reducible apply ls_store); exact rfl; exact rfl; infer_instance; infer_instance; infer_instance; intro _)
    | ((with_reducible apply lsg_I0); rfl)
    | ((with_reducible apply ls_Ratio_))
    | ((with_reducible apply lsg_Ratio_); exact rfl)
    | (go_at_call 14; (with_reducible refine (HA.out _).mono ?_); rintro e w' ⟨rfl, hb'⟩; obtain ⟨_, rfl⟩ := KW.go _ hb'; clear hb')
    | (go_at_call 15; (with_reducible refine (HM.out _).mono ?_); rintro e w' ⟨rfl, hb'⟩; obtain ⟨_, rfl⟩ := KW.go _ hb'; clear hb')
    | (go_at_call 16; (with_reducible refine (HC.out _).mono ?_); rintro e w' ⟨rfl, hb'⟩; obtain ⟨_, rfl⟩ := KW.go _ hb'; clear hb')
    | (go_at_call 17; (with_reducible refine (HF.out _).mono ?_); rintro e w' ⟨rfl, hb'⟩; obtain ⟨_, rfl⟩ := KW.go _ hb'; clear hb')
    | (go_at_call 18; (with_reducible refine (HT.out _).mono ?_); rintro e w' ⟨rfl, hb'⟩; obtain ⟨_, rfl⟩ := KW.go _ hb'; clear hb')
    | (go_at_call 13; (with_reducible refine (M1.out _).mono ?_); rintro e w' ⟨rfl, hb'⟩; obtain ⟨_, rfl⟩ := KW.go _ hb'; clear hb')
    | (go_at_call 13; (with_reducible refine (M2.out _).mono ?_); rintro e w' ⟨rfl, hb'⟩; obtain ⟨_, rfl⟩ := KW.go _ hb'; clear hb'))
  refine region_mixS [.take 0, .take 1, .take 2, .take 3, .take 4, .take 5, .sole 6, .sole 7, .take 8] _ (Sub.both (h := Sub.both (h := Sub.both (h := Sub.both (h := Sub.both (h := Sub.nil)))))) (by kernel_rfl) (by kernel_rfl) ?_
  simp only [picksM, Mv.pick, List.filterMap_cons, List.filterMap_nil, List.getElem?_cons_zero, List.getElem?_cons_succ, Option.map_some]
  refine MM.out ?_
  repeat (first
    | ((with_reducible apply mm_load); exact rfl; infer_instance; infer_instance; (try simp only [Act.put, List.setIfInBounds_toArray, List.set_cons_succ, List.set_cons_zero]))
    | ((with_reducible apply mm_cell); exact rfl; infer_instance; infer_instance; (try simp only [Act.put, List.setIfInBounds_toArray, List.set_cons_succ, List.set_cons_zero]))
    | ((with_reducible apply mm_callf (f := 9)); (intro _; go_simp; try exact rfl); (with_reducible exact fun _ u => O1.out _); (try simp only [Act.put, List.setIfInBounds_toArray, List.set_cons_succ, List.set_cons_zero]))
    | ((with_reducible apply mo_callf (f := 9)); infer_instance; (intro _; go_simp; try exact rfl); (with_reducible exact fun u => O1.out _); (try simp only [Act.put, List.setIfInBounds_toArray, List.set_cons_succ, List.set_cons_zero]))
    | ((with_reducible apply mm_callf (f := 19)); (intro _; go_simp; try exact rfl); (with_reducible exact fun _ u => UP.out _); (try simp only [Act.put, List.setIfInBounds_toArray, List.set_cons_succ, List.set_cons_zero]))
    | ((with_reducible apply mo_callf (f := 19)); infer_instance; (intro _; go_simp; try exact rfl); (with_reducible exact fun u => UP.out _); (try simp only [Act.put, List.setIfInBounds_toArray, List.set_cons_succ, List.set_cons_zero]))
    | ((with_reducible apply mm_value); (intro _; go_simp; try exact rfl); (try simp only [Act.put, List.setIfInBounds_toArray, List.set_cons_succ, List.set_cons_zero]))
    | ((with_reducible apply mo_store); exact rfl; exact rfl; infer_instance; infer_instance; infer_instance; infer_instance; (try simp only [Act.put, List.setIfInBounds_toArray, List.set_cons_succ, List.set_cons_zero]))
    | ((with_reducible apply mo_put); exact rfl; exact rfl; infer_instance; infer_instance; infer_instance; infer_instance; (try simp only [Act.put, List.setIfInBounds_toArray, List.set_cons_succ, List.set_cons_zero]))
    | ((with_reducible apply mo_alloc); infer_instance; infer_instance; intro _; (try simp only [Act.put, List.setIfInBounds_toArray, List.set_cons_succ, List.set_cons_zero]))
    | ((with_reducible apply mo_two); infer_instance; infer_instance; (decide); intro _ _; (try simp only [Act.put, List.setIfInBounds_toArray, List.set_cons_succ, List.set_cons_zero]))
    | ((with_reducible apply mo_load); infer_instance; exact rfl; infer_instance; infer_instance; (try simp only [Act.put, List.setIfInBounds_toArray, List.set_cons_succ, List.set_cons_zero]))
    | ((with_reducible apply mo_cell); infer_instance; exact rfl; infer_instance; infer_instance; (try simp only [Act.put, List.setIfInBounds_toArray, List.set_cons_succ, List.set_cons_zero]))
    | ((with_reducible apply mo_value); infer_instance; (intro _; go_simp; try exact rfl); (try simp only [Act.put, List.setIfInBounds_toArray, List.set_cons_succ, List.set_cons_zero])))
  refine mm_nil fun u7 => ?_
  go_wp2_with (first
    | ((with_reducible apply ls_alloc); infer_instance; intro _ _)
    | ((with_reducible apply ls_load); exact rfl; infer_instance; infer_instance)
    | ((with_reducible apply lsg_load); rfl; exact rfl; infer_instance; infer_instance)
    | ((with_reducible apply ls_store); exact rfl; exact rfl; infer_instance; infer_instance; infer_instance; intro _)
    | ((with_reducible apply ls_I1); exact rfl)
    | (go_at_call 20; (with_reducible refine (LO.out _).mono ?_); rintro e w' ⟨rfl, hb'⟩; obtain ⟨_, rfl⟩ := KW.go _ hb'; clear hb')
    | (go_at_call 20; (with_reducible refine (HI.out _).mono ?_); rintro e w' ⟨rfl, hb'⟩; obtain ⟨_, rfl⟩ := KW.go _ hb'; clear hb')
    | (go_at_call 21; (with_reducible refine (C1.out _).mono ?_); rintro e w' ⟨rfl, hb'⟩; obtain ⟨_, rfl⟩ := KW.go _ hb'; clear hb')
    | (go_at_call 21; (with_reducible refine (C2.out _).mono ?_); rintro e w' ⟨rfl, hb'⟩; obtain ⟨_, rfl⟩ := KW.go _ hb'; clear hb'))
  refine region (by kernel_rfl) (by kernel_rfl) fun _ => ?_
  refine QQ.out ?_
  repeat (first
    | ((with_reducible apply qq_skip); (exact rfl); (try simp only [Act.put, List.setIfInBounds_toArray, List.set_cons_succ, List.set_cons_zero]))
    | ((with_reducible apply qq_load); exact rfl; infer_instance; infer_instance; exact rfl; (try simp only [Act.put, List.setIfInBounds_toArray, List.set_cons_succ, List.set_cons_zero]))
    | ((with_reducible apply qq_cell); exact rfl; infer_instance; infer_instance; exact rfl; (try simp only [Act.put, List.setIfInBounds_toArray, List.set_cons_succ, List.set_cons_zero]))
    | ((with_reducible apply qq_callf (f := 22)); (intro _; go_simp; try exact rfl); (with_reducible exact fun u => RA.out _); exact rfl; (try simp only [Act.put, List.setIfInBounds_toArray, List.set_cons_succ, List.set_cons_zero]))
    | ((with_reducible apply qq_callf (f := 23)); (intro _; go_simp; try exact rfl); (with_reducible exact fun u => RM.out _); exact rfl; (try simp only [Act.put, List.setIfInBounds_toArray, List.set_cons_succ, List.set_cons_zero]))
    | ((with_reducible apply qq_callf (f := 24)); (intro _; go_simp; try exact rfl); (with_reducible exact fun u => X1.out _); exact rfl; (try simp only [Act.put, List.setIfInBounds_toArray, List.set_cons_succ, List.set_cons_zero]))
    | ((with_reducible apply qq_callf (f := 24)); (intro _; go_simp; try exact rfl); (with_reducible exact fun u => X2.out _); exact rfl; (try simp only [Act.put, List.setIfInBounds_toArray, List.set_cons_succ, List.set_cons_zero]))
    | ((with_reducible apply qq_callf (f := 21)); (intro _; go_simp; try exact rfl); (with_reducible exact fun u => RC.out _); exact rfl; (try simp only [Act.put, List.setIfInBounds_toArray, List.set_cons_succ, List.set_cons_zero]))
    | ((with_reducible apply qq_callf (f := 10)); (intro _; go_simp; try exact rfl); (with_reducible exact fun u => HW.out _); exact rfl; (try simp only [Act.put, List.setIfInBounds_toArray, List.set_cons_succ, List.set_cons_zero]))
    | ((with_reducible apply qq_value); (intro _; go_simp; try exact rfl); exact rfl; (try simp only [Act.put, List.setIfInBounds_toArray, List.set_cons_succ, List.set_cons_zero])))
  refine qq_nil ?_
  rintro _ ⟨u8, rfl⟩
  go_wp2_with (fail)
  go_ret
  exact ⟨rfl, KW.below _⟩
theorem ratioAdds_walk (w : World) : Calls Try.prog 4 #[rv s a d, rv t b e] w (TrueAt6 w) := by
  cases h : (mayB s a d && mayB t b e) with
  | false => exact ratioAdds_no s t a b d e ha hb hd he h w
  | true => rw [Bool.and_eq_true] at h; exact ratioAdds_yes s t a b d e ha hb hd he h.1 h.2 w
end
end Go.Proofs.Ytpcbnciihohdjaa.RatW
