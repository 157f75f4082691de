/-
  The walk of the law SignAdds.
-/
import Derived.Test.YtmmnekcnaohnbaaDoorSignLaws
namespace Go.Proofs.YtmmnekcnaohnbaaDoor.SignW
open Go.RowKit
open DigM WideM WideV KM DigW WideW QuotW QuotM DecM FmtW SignM
open Go.Lib (decDigits nDigits)
set_option maxRecDepth 100000 in
set_option maxHeartbeats 12800000 in
theorem signAdds_walk (s t : Bool) (a b : Nat) (ha : Hid (a < M)) (hb : Hid (b < M)) (w : World) (ht : Tab w) : Calls Tryd.prog 3 #[iv s a, iv t b] w (TrueAt5 w) := by
  have HT := Lib.hid ht
  have HW := Lib.hid (fun w (ht : Tab w) => awake5_any w ht)
  have hx : (sg s a).natAbs < M := by rw [sg_abs]; exact ha.out
  have hy : (sg t b).natAbs < M := by rw [sg_abs]; exact hb.out
  have HF1 := fun w => rfix_any s a ha w
  have HF2 := fun w => rfix_any t b hb w
  have HF3 := fun w => fix_any s a ha w
  have HSA := fun w => sadd_any s t a b ha hb w
  have HSS := fun w => ssub_any s t a b ha hb w
  have HSM := fun w => smul_any s t a b ha hb w
  have HRA := fun w => radd_nv (Lib.hid hx) (Lib.hid hy) w
  have HRL := fun w => rless_nv (Lib.hid hy) w
  have HRS := fun w => radd_nv (x := sg s a) (y := - sg t b) (Lib.hid hx) (Lib.hid (nv_lt hy)) w
  rw [← Int.sub_eq_add_neg] at HRS
  have HRM := fun w => rmul_nv (Lib.hid hx) (Lib.hid hy) w
  have HC1 := fun w => scmp_nv (sg s a) (sg t b) (Lib.hid hx) (Lib.hid hy) s t a b rfl rfl ha hb w
  have HC2 := fun w => rcmp_any s t a b ha hb w
  have HN1 := fun w => sless_any s a ha w
  have HN2 := fun w => rless_any s a ha w
  have HB := fun w => ssub_any (ng (lowI (sg s a + sg t b))) t (lowI (sg s a + sg t b)).natAbs b (Lib.hid (lowI_lt _)) hb w
  rw [sg_ng] at HB
  have hE : fitI (sg s a + sg t b) = true → fv (lowI (sg s a + sg t b) - sg t b) = .tuple #[nv (sg s a), .bool true] := fun h => by
    rw [show lowI (sg s a + sg t b) - sg t b = sg s a by rw [low_fit (of_decide_eq_true h)]; omega]
    exact fv_fit hx
  clear ht hx hy
  unfold fv nv at *
  generalize fitI (lowI (sg s a + sg t b) - sg t b) = o at *
  generalize lowI (lowI (sg s a + sg t b) - sg t b) = Z at *
  generalize fitI (sg s a + sg t b) = p at *
  generalize lowI (sg s a + sg t b) = S at *
  generalize fitI (sg s a - sg t b) = q at *
  generalize lowI (sg s a - sg t b) = D at *
  generalize fitI (sg s a * sg t b) = r at *
  generalize lowI (sg s a * sg t b) = P at *
  generalize cmpZ (sg s a - sg t b) = c at *
  generalize ng (- sg s a) = pn at *
  generalize (- sg s a).natAbs = mn at *
  generalize ng (- sg t b) = pl at *
  generalize (- sg t b).natAbs = ml at *
  generalize ng (sg s a) = px at *
  generalize (sg s a).natAbs = mx at *
  generalize ng (sg t b) = py at *
  generalize (sg t b).natAbs = my at *
  generalize ng Z = pZ at *
  generalize Z.natAbs = mZ at *
  generalize ng S = pS at *
  generalize S.natAbs = mS at *
  generalize ng D = pD at *
  generalize D.natAbs = mD at *
  generalize ng P = pM at *
  generalize P.natAbs = mM at *
  replace HF1 := Lib.hid HF1
  replace HF2 := Lib.hid HF2
  replace HF3 := Lib.hid HF3
  replace HSA := Lib.hid HSA
  replace HSS := Lib.hid HSS
  replace HSM := Lib.hid HSM
  replace HRA := Lib.hid HRA
  replace HRL := Lib.hid HRL
  replace HRS := Lib.hid HRS
  replace HRM := Lib.hid HRM
  replace HC1 := Lib.hid HC1
  replace HC2 := Lib.hid HC2
  replace HN1 := Lib.hid HN1
  replace HN2 := Lib.hid HN2
  have key : p = false ∨ (p = true ∧ o = true ∧ iv pZ mZ = iv px mx) := by
    cases p
    · exact Or.inl rfl
    · have := hE rfl
      simp only [Value.tuple.injEq, Array.mk.injEq, List.cons.injEq, Value.bool.injEq, and_true] at this
      exact Or.inr ⟨rfl, this.2, this.1⟩
  clear hE
  refine enter fun u => ?_
  go_enter Tryd.func3, Tryd.ntmps3
  go_wp2_with (first
    | ((with_reducible apply list_box); exact rfl; intro _ _))
  try simp only [Act.put, List.setIfInBounds_toArray, List.set_cons_succ, List.set_cons_zero]
  refine region_mixS [.take 0, .take 2, .take 1, .take 3, .two 4 5, .sole 6, .sole 7] _ (Sub.both (h := Sub.both (h := Sub.nil))) (by kernel_rfl) (by kernel_rfl) ?_
  simp only [picksM, Mv.pick, List.filterMap_cons, List.filterMap_nil, List.getElem?_cons_zero, List.getElem?_cons_succ, Option.map_some]
  refine sm_load rfl inferInstance inferInstance ?_
  try simp only [Act.put, List.setIfInBounds_toArray, List.set_cons_succ, List.set_cons_zero]
  refine sm_load rfl inferInstance inferInstance ?_
  try simp only [Act.put, List.setIfInBounds_toArray, List.set_cons_succ, List.set_cons_zero]
  refine sm_call (f := 7) (args := #[iv s a]) (by intro w; go_simp) (fun _ u => HF1.out _) ?_
  try simp only [Act.put, List.setIfInBounds_toArray, List.set_cons_succ, List.set_cons_zero]
  refine sm_call (f := 7) (args := #[iv t b]) (by intro w; go_simp) (fun _ u => HF2.out _) ?_
  try simp only [Act.put, List.setIfInBounds_toArray, List.set_cons_succ, List.set_cons_zero]
  refine so_two (by decide) inferInstance inferInstance fun _ _ => ?_
  try simp only [Act.put, List.setIfInBounds_toArray, List.set_cons_succ, List.set_cons_zero]
  refine so_store rfl rfl inferInstance inferInstance inferInstance inferInstance ?_
  try simp only [Act.put, List.setIfInBounds_toArray, List.set_cons_succ, List.set_cons_zero]
  refine so_store rfl rfl inferInstance inferInstance inferInstance inferInstance ?_
  try simp only [Act.put, List.setIfInBounds_toArray, List.set_cons_succ, List.set_cons_zero]
  refine sm_nil fun u6 => ?_
  go_wp2_with (first
    | ((with_reducible apply list_box); exact rfl; intro _ _)
    | ((with_reducible apply ls_alloc); infer_instance; intro _ _)
    | ((with_reducible apply ls_load); exact rfl; infer_instance; infer_instance)
    | ((with_reducible apply ls_store); exact rfl; exact rfl; infer_instance; infer_instance; infer_instance; intro _)
    | (go_at_call 8; (with_reducible refine (HSA.out _).mono ?_); rintro e w' ⟨rfl, hb'⟩; obtain ⟨_, rfl⟩ := KW.go _ hb'; clear hb')
    | (go_at_call 9; (with_reducible refine (HSS.out _).mono ?_); rintro e w' ⟨rfl, hb'⟩; obtain ⟨_, rfl⟩ := KW.go _ hb'; clear hb')
    | (go_at_call 10; (with_reducible refine (HSM.out _).mono ?_); rintro e w' ⟨rfl, hb'⟩; obtain ⟨_, rfl⟩ := KW.go _ hb'; clear hb')
    | (go_at_call 11; (with_reducible refine (HRA.out _).mono ?_); rintro e w' ⟨rfl, hb'⟩; obtain ⟨_, rfl⟩ := KW.go _ hb'; clear hb'))
  try simp only [Act.put, List.setIfInBounds_toArray, List.set_cons_succ, List.set_cons_zero]
  refine region_mixS [.take 0, .take 1, .take 2, .take 3, .take 4, .take 5, .take 6, .sole 7, .sole 8, .sole 9] _ (Sub.skip (h := Sub.skip (h := Sub.skip (h := Sub.skip (h := Sub.both (h := Sub.both (h := Sub.skip (h := Sub.skip (h := Sub.nil))))))))) (by kernel_rfl) (by kernel_rfl) ?_
  simp only [picksM, Mv.pick, List.filterMap_cons, List.filterMap_nil, List.getElem?_cons_zero, List.getElem?_cons_succ, Option.map_some]
  refine sm_load rfl inferInstance inferInstance ?_
  try simp only [Act.put, List.setIfInBounds_toArray, List.set_cons_succ, List.set_cons_zero]
  refine sm_load rfl inferInstance inferInstance ?_
  try simp only [Act.put, List.setIfInBounds_toArray, List.set_cons_succ, List.set_cons_zero]
  refine sm_call (f := 12) (args := #[iv py my]) (by intro w; go_simp) (fun _ u => HRL.out _) ?_
  try simp only [Act.put, List.setIfInBounds_toArray, List.set_cons_succ, List.set_cons_zero]
  refine sm_call (f := 11) (args := #[iv px mx, iv pl ml]) (by intro w; go_simp) (fun _ u => HRS.out _) ?_
  try simp only [Act.put, List.setIfInBounds_toArray, List.set_cons_succ, List.set_cons_zero]
  refine sm_value (v := .tuple #[iv pD mD, .bool q]) (by intro w; go_simp) ?_
  try simp only [Act.put, List.setIfInBounds_toArray, List.set_cons_succ, List.set_cons_zero]
  refine sm_value (v := iv pD mD) (by intro w; go_simp) ?_
  try simp only [Act.put, List.setIfInBounds_toArray, List.set_cons_succ, List.set_cons_zero]
  refine sm_value (v := .bool q) (by intro w; go_simp) ?_
  try simp only [Act.put, List.setIfInBounds_toArray, List.set_cons_succ, List.set_cons_zero]
  refine so_alloc inferInstance inferInstance fun _ => ?_
  try simp only [Act.put, List.setIfInBounds_toArray, List.set_cons_succ, List.set_cons_zero]
  refine so_store rfl rfl inferInstance inferInstance inferInstance inferInstance ?_
  try simp only [Act.put, List.setIfInBounds_toArray, List.set_cons_succ, List.set_cons_zero]
  refine so_value (v := .bool q) inferInstance (by intro w; go_simp) ?_
  try simp only [Act.put, List.setIfInBounds_toArray, List.set_cons_succ, List.set_cons_zero]
  refine sm_nil fun u7 => ?_
  go_wp2_with (first
    | ((with_reducible apply ls_alloc); infer_instance; intro _ _)
    | ((with_reducible apply ls_load); exact rfl; infer_instance; infer_instance)
    | ((with_reducible apply ls_store); exact rfl; exact rfl; infer_instance; infer_instance; infer_instance; intro _)
    | (go_at_call 13; (with_reducible refine (HRM.out _).mono ?_); rintro e w' ⟨rfl, hb'⟩; obtain ⟨_, rfl⟩ := KW.go _ hb'; clear hb'))
  refine region (by kernel_rfl) (by kernel_rfl) fun _ => ?_
  refine qt_load (by rfl) rfl inferInstance inferInstance ?_
  try simp only [Act.put, List.setIfInBounds_toArray, List.set_cons_succ, List.set_cons_zero]
  refine qt_load (by rfl) rfl inferInstance inferInstance ?_
  try simp only [Act.put, List.setIfInBounds_toArray, List.set_cons_succ, List.set_cons_zero]
  refine qt_value (v := .bool false) (by rfl) (by intro w; go_simp) ?_
  try simp only [Act.put, List.setIfInBounds_toArray, List.set_cons_succ, List.set_cons_zero]
  refine qt_value (v := .bool false) (by rfl) (by intro w; go_simp) ?_
  try simp only [Act.put, List.setIfInBounds_toArray, List.set_cons_succ, List.set_cons_zero]
  refine qt_value (v := .bool p) (by rfl) (by intro w; go_simp) ?_
  try simp only [Act.put, List.setIfInBounds_toArray, List.set_cons_succ, List.set_cons_zero]
  refine qt_value (v := .bool p) (by rfl) (by intro w; go_simp) ?_
  try simp only [Act.put, List.setIfInBounds_toArray, List.set_cons_succ, List.set_cons_zero]
  refine qt_value (v := .bool false) (by rfl) (by intro w; go_simp) ?_
  try simp only [Act.put, List.setIfInBounds_toArray, List.set_cons_succ, List.set_cons_zero]
  refine qt_value (v := .bool false) (by rfl) (by intro w; go_simp) ?_
  try simp only [Act.put, List.setIfInBounds_toArray, List.set_cons_succ, List.set_cons_zero]
  refine qt_value (v := .bool false) (by rfl) (by intro w; go_simp) ?_
  try simp only [Act.put, List.setIfInBounds_toArray, List.set_cons_succ, List.set_cons_zero]
  refine qt_load (by rfl) rfl inferInstance inferInstance ?_
  try simp only [Act.put, List.setIfInBounds_toArray, List.set_cons_succ, List.set_cons_zero]
  refine qt_load (by rfl) rfl inferInstance inferInstance ?_
  try simp only [Act.put, List.setIfInBounds_toArray, List.set_cons_succ, List.set_cons_zero]
  refine qt_value (v := .bool false) (by rfl) (by intro w; go_simp) ?_
  try simp only [Act.put, List.setIfInBounds_toArray, List.set_cons_succ, List.set_cons_zero]
  refine qt_value (v := .bool false) (by rfl) (by intro w; go_simp) ?_
  try simp only [Act.put, List.setIfInBounds_toArray, List.set_cons_succ, List.set_cons_zero]
  refine qt_value (v := .bool false) (by rfl) (by intro w; go_simp) ?_
  try simp only [Act.put, List.setIfInBounds_toArray, List.set_cons_succ, List.set_cons_zero]
  refine qt_value (v := .bool q) (by rfl) (by intro w; go_simp) ?_
  try simp only [Act.put, List.setIfInBounds_toArray, List.set_cons_succ, List.set_cons_zero]
  refine qt_value (v := .bool q) (by rfl) (by intro w; go_simp) ?_
  try simp only [Act.put, List.setIfInBounds_toArray, List.set_cons_succ, List.set_cons_zero]
  refine qt_value (v := .bool false) (by rfl) (by intro w; go_simp) ?_
  try simp only [Act.put, List.setIfInBounds_toArray, List.set_cons_succ, List.set_cons_zero]
  refine qt_value (v := .bool false) (by rfl) (by intro w; go_simp) ?_
  try simp only [Act.put, List.setIfInBounds_toArray, List.set_cons_succ, List.set_cons_zero]
  refine qt_value (v := .bool false) (by rfl) (by intro w; go_simp) ?_
  try simp only [Act.put, List.setIfInBounds_toArray, List.set_cons_succ, List.set_cons_zero]
  refine qt_load (by rfl) rfl inferInstance inferInstance ?_
  try simp only [Act.put, List.setIfInBounds_toArray, List.set_cons_succ, List.set_cons_zero]
  refine qt_load (by rfl) rfl inferInstance inferInstance ?_
  try simp only [Act.put, List.setIfInBounds_toArray, List.set_cons_succ, List.set_cons_zero]
  refine qt_value (v := .bool false) (by rfl) (by intro w; go_simp) ?_
  try simp only [Act.put, List.setIfInBounds_toArray, List.set_cons_succ, List.set_cons_zero]
  refine qt_value (v := .bool false) (by rfl) (by intro w; go_simp) ?_
  try simp only [Act.put, List.setIfInBounds_toArray, List.set_cons_succ, List.set_cons_zero]
  refine qt_value (v := .bool false) (by rfl) (by intro w; go_simp) ?_
  try simp only [Act.put, List.setIfInBounds_toArray, List.set_cons_succ, List.set_cons_zero]
  refine qt_value (v := .bool r) (by rfl) (by intro w; go_simp) ?_
  try simp only [Act.put, List.setIfInBounds_toArray, List.set_cons_succ, List.set_cons_zero]
  refine qt_value (v := .bool r) (by rfl) (by intro w; go_simp) ?_
  try simp only [Act.put, List.setIfInBounds_toArray, List.set_cons_succ, List.set_cons_zero]
  refine qt_value (v := .bool false) (by rfl) (by intro w; go_simp) ?_
  try simp only [Act.put, List.setIfInBounds_toArray, List.set_cons_succ, List.set_cons_zero]
  refine qt_value (v := .bool false) (by rfl) (by intro w; go_simp) ?_
  try simp only [Act.put, List.setIfInBounds_toArray, List.set_cons_succ, List.set_cons_zero]
  refine qt_value (v := .bool false) (by rfl) (by intro w; go_simp) ?_
  try simp only [Act.put, List.setIfInBounds_toArray, List.set_cons_succ, List.set_cons_zero]
  refine qt_load (by rfl) rfl inferInstance inferInstance ?_
  try simp only [Act.put, List.setIfInBounds_toArray, List.set_cons_succ, List.set_cons_zero]
  refine qt_load (by rfl) rfl inferInstance inferInstance ?_
  try simp only [Act.put, List.setIfInBounds_toArray, List.set_cons_succ, List.set_cons_zero]
  refine qt_call (f := 14) (args := #[iv s a, iv t b]) (by rfl) (by intro w; go_simp) (fun u => HC1.out _) ?_
  try simp only [Act.put, List.setIfInBounds_toArray, List.set_cons_succ, List.set_cons_zero]
  refine qt_load (by rfl) rfl inferInstance inferInstance ?_
  try simp only [Act.put, List.setIfInBounds_toArray, List.set_cons_succ, List.set_cons_zero]
  refine qt_load (by rfl) rfl inferInstance inferInstance ?_
  try simp only [Act.put, List.setIfInBounds_toArray, List.set_cons_succ, List.set_cons_zero]
  refine qt_call (f := 15) (args := #[iv s a, iv t b]) (by rfl) (by intro w; go_simp) (fun u => HC2.out _) ?_
  try simp only [Act.put, List.setIfInBounds_toArray, List.set_cons_succ, List.set_cons_zero]
  refine qt_value (v := .bool false) (by rfl) (by intro w; go_simp) ?_
  try simp only [Act.put, List.setIfInBounds_toArray, List.set_cons_succ, List.set_cons_zero]
  refine qt_value (v := .bool false) (by rfl) (by intro w; go_simp) ?_
  try simp only [Act.put, List.setIfInBounds_toArray, List.set_cons_succ, List.set_cons_zero]
  refine qt_value (v := .bool false) (by rfl) (by intro w; go_simp) ?_
  try simp only [Act.put, List.setIfInBounds_toArray, List.set_cons_succ, List.set_cons_zero]
  refine qt_load (by rfl) rfl inferInstance inferInstance ?_
  try simp only [Act.put, List.setIfInBounds_toArray, List.set_cons_succ, List.set_cons_zero]
  refine qt_call (f := 16) (args := #[iv s a]) (by rfl) (by intro w; go_simp) (fun u => HN1.out _) ?_
  try simp only [Act.put, List.setIfInBounds_toArray, List.set_cons_succ, List.set_cons_zero]
  refine qt_load (by rfl) rfl inferInstance inferInstance ?_
  try simp only [Act.put, List.setIfInBounds_toArray, List.set_cons_succ, List.set_cons_zero]
  refine qt_call (f := 12) (args := #[iv s a]) (by rfl) (by intro w; go_simp) (fun u => HN2.out _) ?_
  try simp only [Act.put, List.setIfInBounds_toArray, List.set_cons_succ, List.set_cons_zero]
  refine qt_value (v := .bool false) (by rfl) (by intro w; go_simp) ?_
  try simp only [Act.put, List.setIfInBounds_toArray, List.set_cons_succ, List.set_cons_zero]
  refine qt_value (v := .bool false) (by rfl) (by intro w; go_simp) ?_
  try simp only [Act.put, List.setIfInBounds_toArray, List.set_cons_succ, List.set_cons_zero]
  refine qt_value (v := .bool false) (by rfl) (by intro w; go_simp) ?_
  try simp only [Act.put, List.setIfInBounds_toArray, List.set_cons_succ, List.set_cons_zero]
  refine qt_load (by rfl) rfl inferInstance inferInstance ?_
  try simp only [Act.put, List.setIfInBounds_toArray, List.set_cons_succ, List.set_cons_zero]
  refine qt_call (f := 17) (args := #[iv s a]) (by rfl) (by intro w; go_simp) (fun u => HF3.out _) ?_
  try simp only [Act.put, List.setIfInBounds_toArray, List.set_cons_succ, List.set_cons_zero]
  refine qt_load (by rfl) rfl inferInstance inferInstance ?_
  try simp only [Act.put, List.setIfInBounds_toArray, List.set_cons_succ, List.set_cons_zero]
  refine qt_value (v := .bool false) (by rfl) (by intro w; go_simp) ?_
  try simp only [Act.put, List.setIfInBounds_toArray, List.set_cons_succ, List.set_cons_zero]
  refine qt_value (v := .bool false) (by rfl) (by intro w; go_simp) ?_
  try simp only [Act.put, List.setIfInBounds_toArray, List.set_cons_succ, List.set_cons_zero]
  refine wpQuiet_nil ?_
  rintro _ ⟨u8, rfl⟩
  rcases key with rfl | ⟨rfl, rfl, hZ⟩
  · replace HB := Lib.hid HB
    go_wp2_with (first
      | ((with_reducible apply list_box); exact rfl; intro _ _)
      | ((with_reducible apply ls_alloc); infer_instance; intro _ _)
      | ((with_reducible apply ls_load); exact rfl; infer_instance; infer_instance)
      | ((with_reducible apply lsg_load); rfl; exact rfl; infer_instance; infer_instance)
      | ((with_reducible apply ls_store); exact rfl; exact rfl; infer_instance; infer_instance; infer_instance; intro _)
      | (go_at_call 9; (with_reducible refine (HB.out _).mono ?_); rintro e w' ⟨rfl, hb'⟩; obtain ⟨_, rfl⟩ := KW.go _ hb'; clear hb')
      | (go_at_call 18; (with_reducible refine (HW.out _ (HT.out.later (KW.below _) (Nat.le_refl _))).mono ?_); rintro e w' ⟨rfl, hb'⟩; obtain ⟨_, rfl⟩ := KW.go _ hb'; clear hb'))
    go_ret
    exact ⟨rfl, KW.below _⟩
  · rw [hZ] at HB
    clear hZ
    replace HB := Lib.hid HB
    go_wp2_with (first
      | ((with_reducible apply list_box); exact rfl; intro _ _)
      | ((with_reducible apply ls_alloc); infer_instance; intro _ _)
      | ((with_reducible apply ls_load); exact rfl; infer_instance; infer_instance)
      | ((with_reducible apply lsg_load); rfl; exact rfl; infer_instance; infer_instance)
      | ((with_reducible apply ls_store); exact rfl; exact rfl; infer_instance; infer_instance; infer_instance; intro _)
      | (go_at_call 9; (with_reducible refine (HB.out _).mono ?_); rintro e w' ⟨rfl, hb'⟩; obtain ⟨_, rfl⟩ := KW.go _ hb'; clear hb')
      | (go_at_call 18; (with_reducible refine (HW.out _ (HT.out.later (KW.below _) (Nat.le_refl _))).mono ?_); rintro e w' ⟨rfl, hb'⟩; obtain ⟨_, rfl⟩ := KW.go _ hb'; clear hb'))
    go_ret
    exact ⟨rfl, KW.below _⟩
end Go.Proofs.YtmmnekcnaohnbaaDoor.SignW
