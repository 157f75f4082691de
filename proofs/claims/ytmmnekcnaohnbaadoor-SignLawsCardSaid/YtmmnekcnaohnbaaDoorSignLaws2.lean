/-
  The walk of the law SignLaws.
-/
import Derived.Test.YtmmnekcnaohnbaaDoorSignLaws
namespace Go.Proofs.YtmmnekcnaohnbaaDoor.SignW
open Go.RowKit
open DigM WideM WideV KM DigW WideW QuotW QuotM DecM FmtW SignM
open Go.Lib (decDigits nDigits)
theorem fit_neg (z : Int) : fitI (-z) = fitI z := by unfold fitI; rw [Int.natAbs_neg]
theorem low_neg (z : Int) : lowI (-z) = - lowI z := by unfold lowI; rw [Int.natAbs_neg]; split <;> omega
theorem fit_out {z : Int} (h : fitI z = true) : lowI z = z := low_fit (of_decide_eq_true h)
set_option maxRecDepth 100000 in
set_option maxHeartbeats 12800000 in
theorem signLaws_walk (s t r : Bool) (a b c : Nat) (ha : Hid (a < M)) (hb : Hid (b < M)) (hc : Hid (c < M)) (w : World) (ht : Tab w) : Calls Tryd.prog 6 #[iv s a, iv t b, iv r c] w (TrueAt5 w) := by
  have HT := Lib.hid ht
  have HW := Lib.hid (fun w (ht : Tab w) => awake5_any w ht)
  have hx : (sg s a).natAbs < M := by rw [sg_abs]; exact ha.out
  have HM1 := fun w => smul_any s t a b ha hb w
  have HM2 := fun w => smul_any t s b a hb ha w
  rw [Int.mul_comm] at HM2
  have HA1 := fun w => sadd_any t r b c hb hc w
  have HA2 := fun w => sadd_any r t c b hc hb w
  rw [Int.add_comm] at HA2
  have HL := fun w => sless_any s a ha w
  have HM3 := fun w => smul_any (ng (- sg s a)) t (- sg s a).natAbs b (Lib.hid (nv_lt hx)) hb w
  rw [sg_ng, Int.neg_mul] at HM3
  unfold fv at HM3
  rw [fit_neg, low_neg] at HM3
  have HL2 := fun w => sless_nv (x := lowI (sg s a * sg t b)) (Lib.hid (lowI_lt _)) w
  have HM4 := fun w => smul_any s (ng (lowI (sg t b + sg r c))) a (lowI (sg t b + sg r c)).natAbs ha (Lib.hid (lowI_lt _)) w
  rw [sg_ng] at HM4
  have HM5 := fun w => smul_any s r a c ha hc w
  have HA3 := fun w => sadd_nv (x := lowI (sg s a * sg t b)) (y := lowI (sg s a * sg r c)) (Lib.hid (lowI_lt _)) (Lib.hid (lowI_lt _)) w
  have hE : fitI (sg s a * sg t b) = true → fitI (sg t b + sg r c) = true → fitI (sg s a * lowI (sg t b + sg r c)) = true → fitI (sg s a * sg r c) = true → fitI (lowI (sg s a * sg t b) + lowI (sg s a * sg r c)) = true →
      nv (lowI (sg s a * lowI (sg t b + sg r c))) = nv (lowI (lowI (sg s a * sg t b) + lowI (sg s a * sg r c))) := fun h1 h2 h3 h4 h5 => by
    rw [fit_out h3, fit_out h5, fit_out h1, fit_out h2, fit_out h4, Int.mul_add]
  clear ht hx
  unfold fv nv at *
  generalize fitI (sg s a * lowI (sg t b + sg r c)) = v at *
  generalize lowI (sg s a * lowI (sg t b + sg r c)) = X at *
  generalize fitI (lowI (sg s a * sg t b) + lowI (sg s a * sg r c)) = z at *
  generalize lowI (lowI (sg s a * sg t b) + lowI (sg s a * sg r c)) = Y at *
  generalize fitI (sg s a * sg t b) = o at *
  generalize fitI (sg t b + sg r c) = q at *
  generalize fitI (sg s a * sg r c) = f at *
  generalize lowI (sg s a * sg t b) = P at *
  generalize lowI (sg t b + sg r c) = S at *
  generalize lowI (sg s a * sg r c) = C at *
  generalize ng (-P) = pN at *
  generalize (-P).natAbs = mN at *
  generalize ng P = pP at *
  generalize P.natAbs = mP at *
  generalize ng S = pS at *
  generalize S.natAbs = mS at *
  generalize ng C = pC at *
  generalize C.natAbs = mC at *
  generalize ng X = pX at *
  generalize X.natAbs = mX at *
  generalize ng Y = pY at *
  generalize Y.natAbs = mY at *
  generalize ng (- sg s a) = pL at *
  generalize (- sg s a).natAbs = mL at *
  replace HM1 := Lib.hid HM1
  replace HM2 := Lib.hid HM2
  replace HA1 := Lib.hid HA1
  replace HA2 := Lib.hid HA2
  replace HL := Lib.hid HL
  replace HM3 := Lib.hid HM3
  replace HL2 := Lib.hid HL2
  replace HM4 := Lib.hid HM4
  replace HM5 := Lib.hid HM5
  replace HA3 := Lib.hid HA3
  have HE := Lib.hid hE
  clear hE
  refine enter fun u => ?_
  go_enter Tryd.func6, Tryd.ntmps6
  go_wp2_with (first
    | ((with_reducible apply list_box); exact rfl; intro _ _)
    | ((with_reducible apply ls_alloc); infer_instance; intro _ _)
    | ((with_reducible apply ls_load); exact rfl; infer_instance; infer_instance)
    | ((with_reducible apply ls_store); exact rfl; exact rfl; infer_instance; infer_instance; infer_instance; intro _)
    | (go_at_call 10; (with_reducible refine (HM1.out _).mono ?_); rintro e w' ⟨rfl, hb'⟩; obtain ⟨_, rfl⟩ := KW.go _ hb'; clear hb')
    | (go_at_call 10; (with_reducible refine (HM2.out _).mono ?_); rintro e w' ⟨rfl, hb'⟩; obtain ⟨_, rfl⟩ := KW.go _ hb'; clear hb')
    | (go_at_call 8; (with_reducible refine (HA1.out _).mono ?_); rintro e w' ⟨rfl, hb'⟩; obtain ⟨_, rfl⟩ := KW.go _ hb'; clear hb')
    | (go_at_call 8; (with_reducible refine (HA2.out _).mono ?_); rintro e w' ⟨rfl, hb'⟩; obtain ⟨_, rfl⟩ := KW.go _ hb'; clear hb'))
  try simp only [Act.put, List.setIfInBounds_toArray, List.set_cons_succ, List.set_cons_zero]
  refine region_mixS [.take 0, .take 2, .take 1, .take 3, .take 4, .take 5, .take 6, .sole 7, .sole 8, .sole 9] _ (Sub.skip (h := Sub.skip (h := Sub.skip (h := Sub.skip (h := Sub.skip (h := Sub.both (h := Sub.both (h := Sub.nil)))))))) (by kernel_rfl) (by kernel_rfl) ?_
  simp only [picksM, Mv.pick, List.filterMap_cons, List.filterMap_nil, List.getElem?_cons_zero, List.getElem?_cons_succ, Option.map_some]
  refine sm_load rfl inferInstance inferInstance ?_
  try simp only [Act.put, List.setIfInBounds_toArray, List.set_cons_succ, List.set_cons_zero]
  refine sm_load rfl inferInstance inferInstance ?_
  try simp only [Act.put, List.setIfInBounds_toArray, List.set_cons_succ, List.set_cons_zero]
  refine sm_call (f := 16) (args := #[iv s a]) (by intro w; go_simp) (fun _ u => HL.out _) ?_
  try simp only [Act.put, List.setIfInBounds_toArray, List.set_cons_succ, List.set_cons_zero]
  refine sm_call (f := 10) (args := #[iv pL mL, iv t b]) (by intro w; go_simp) (fun _ u => HM3.out _) ?_
  try simp only [Act.put, List.setIfInBounds_toArray, List.set_cons_succ, List.set_cons_zero]
  refine sm_value (v := .tuple #[iv pN mN, .bool o]) (by intro w; go_simp) ?_
  try simp only [Act.put, List.setIfInBounds_toArray, List.set_cons_succ, List.set_cons_zero]
  refine sm_value (v := iv pN mN) (by intro w; go_simp) ?_
  try simp only [Act.put, List.setIfInBounds_toArray, List.set_cons_succ, List.set_cons_zero]
  refine sm_value (v := .bool o) (by intro w; go_simp) ?_
  try simp only [Act.put, List.setIfInBounds_toArray, List.set_cons_succ, List.set_cons_zero]
  refine so_alloc inferInstance inferInstance fun _ => ?_
  try simp only [Act.put, List.setIfInBounds_toArray, List.set_cons_succ, List.set_cons_zero]
  refine so_store rfl rfl inferInstance inferInstance inferInstance inferInstance ?_
  try simp only [Act.put, List.setIfInBounds_toArray, List.set_cons_succ, List.set_cons_zero]
  refine so_value (v := .bool o) inferInstance (by intro w; go_simp) ?_
  try simp only [Act.put, List.setIfInBounds_toArray, List.set_cons_succ, List.set_cons_zero]
  refine sm_nil fun u7 => ?_
  go_wp2_with (fail)
  refine region (by kernel_rfl) (by kernel_rfl) fun _ => ?_
  refine qt_load (by rfl) rfl inferInstance inferInstance ?_
  try simp only [Act.put, List.setIfInBounds_toArray, List.set_cons_succ, List.set_cons_zero]
  refine qt_load (by rfl) rfl inferInstance inferInstance ?_
  try simp only [Act.put, List.setIfInBounds_toArray, List.set_cons_succ, List.set_cons_zero]
  refine qt_value (v := .bool false) (by rfl) (by intro w; go_simp) ?_
  try simp only [Act.put, List.setIfInBounds_toArray, List.set_cons_succ, List.set_cons_zero]
  refine qt_value (v := .bool false) (by rfl) (by intro w; go_simp) ?_
  try simp only [Act.put, List.setIfInBounds_toArray, List.set_cons_succ, List.set_cons_zero]
  refine qt_value (v := .bool o) (by rfl) (by intro w; go_simp) ?_
  try simp only [Act.put, List.setIfInBounds_toArray, List.set_cons_succ, List.set_cons_zero]
  refine qt_value (v := .bool o) (by rfl) (by intro w; go_simp) ?_
  try simp only [Act.put, List.setIfInBounds_toArray, List.set_cons_succ, List.set_cons_zero]
  refine qt_value (v := .bool false) (by rfl) (by intro w; go_simp) ?_
  try simp only [Act.put, List.setIfInBounds_toArray, List.set_cons_succ, List.set_cons_zero]
  refine qt_value (v := .bool false) (by rfl) (by intro w; go_simp) ?_
  try simp only [Act.put, List.setIfInBounds_toArray, List.set_cons_succ, List.set_cons_zero]
  refine qt_value (v := .bool false) (by rfl) (by intro w; go_simp) ?_
  try simp only [Act.put, List.setIfInBounds_toArray, List.set_cons_succ, List.set_cons_zero]
  refine qt_load (by rfl) rfl inferInstance inferInstance ?_
  try simp only [Act.put, List.setIfInBounds_toArray, List.set_cons_succ, List.set_cons_zero]
  refine qt_load (by rfl) rfl inferInstance inferInstance ?_
  try simp only [Act.put, List.setIfInBounds_toArray, List.set_cons_succ, List.set_cons_zero]
  refine qt_value (v := .bool false) (by rfl) (by intro w; go_simp) ?_
  try simp only [Act.put, List.setIfInBounds_toArray, List.set_cons_succ, List.set_cons_zero]
  refine qt_value (v := .bool false) (by rfl) (by intro w; go_simp) ?_
  try simp only [Act.put, List.setIfInBounds_toArray, List.set_cons_succ, List.set_cons_zero]
  refine qt_value (v := .bool false) (by rfl) (by intro w; go_simp) ?_
  try simp only [Act.put, List.setIfInBounds_toArray, List.set_cons_succ, List.set_cons_zero]
  refine qt_value (v := .bool q) (by rfl) (by intro w; go_simp) ?_
  try simp only [Act.put, List.setIfInBounds_toArray, List.set_cons_succ, List.set_cons_zero]
  refine qt_value (v := .bool q) (by rfl) (by intro w; go_simp) ?_
  try simp only [Act.put, List.setIfInBounds_toArray, List.set_cons_succ, List.set_cons_zero]
  refine qt_value (v := .bool false) (by rfl) (by intro w; go_simp) ?_
  try simp only [Act.put, List.setIfInBounds_toArray, List.set_cons_succ, List.set_cons_zero]
  refine qt_value (v := .bool false) (by rfl) (by intro w; go_simp) ?_
  try simp only [Act.put, List.setIfInBounds_toArray, List.set_cons_succ, List.set_cons_zero]
  refine qt_value (v := .bool false) (by rfl) (by intro w; go_simp) ?_
  try simp only [Act.put, List.setIfInBounds_toArray, List.set_cons_succ, List.set_cons_zero]
  refine qt_value (v := .bool o) (by rfl) (by intro w; go_simp) ?_
  try simp only [Act.put, List.setIfInBounds_toArray, List.set_cons_succ, List.set_cons_zero]
  refine qt_value (v := .bool o) (by rfl) (by intro w; go_simp) ?_
  try simp only [Act.put, List.setIfInBounds_toArray, List.set_cons_succ, List.set_cons_zero]
  refine qt_value (v := .bool false) (by rfl) (by intro w; go_simp) ?_
  try simp only [Act.put, List.setIfInBounds_toArray, List.set_cons_succ, List.set_cons_zero]
  refine qt_value (v := .bool false) (by rfl) (by intro w; go_simp) ?_
  try simp only [Act.put, List.setIfInBounds_toArray, List.set_cons_succ, List.set_cons_zero]
  refine qt_value (v := .bool false) (by rfl) (by intro w; go_simp) ?_
  try simp only [Act.put, List.setIfInBounds_toArray, List.set_cons_succ, List.set_cons_zero]
  refine qt_load (by rfl) rfl inferInstance inferInstance ?_
  try simp only [Act.put, List.setIfInBounds_toArray, List.set_cons_succ, List.set_cons_zero]
  refine qt_load (by rfl) rfl inferInstance inferInstance ?_
  try simp only [Act.put, List.setIfInBounds_toArray, List.set_cons_succ, List.set_cons_zero]
  refine qt_call (f := 16) (args := #[iv pP mP]) (by rfl) (by intro w; go_simp) (fun u => HL2.out _) ?_
  try simp only [Act.put, List.setIfInBounds_toArray, List.set_cons_succ, List.set_cons_zero]
  refine qt_value (v := .bool false) (by rfl) (by intro w; go_simp) ?_
  try simp only [Act.put, List.setIfInBounds_toArray, List.set_cons_succ, List.set_cons_zero]
  refine qt_value (v := .bool false) (by rfl) (by intro w; go_simp) ?_
  try simp only [Act.put, List.setIfInBounds_toArray, List.set_cons_succ, List.set_cons_zero]
  refine wpQuiet_nil ?_
  rintro _ ⟨u8, rfl⟩
  have key : o = false ∨ (o = true ∧ q = false) ∨ (o = true ∧ q = true ∧ v = false) ∨ (o = true ∧ q = true ∧ v = true ∧ f = false) ∨ (o = true ∧ q = true ∧ v = true ∧ f = true ∧ z = false) ∨ (o = true ∧ q = true ∧ v = true ∧ f = true ∧ z = true ∧ iv pX mX = iv pY mY) := by
    cases o <;> cases q <;> cases v <;> cases f <;> cases z <;> first | simp; done | exact Or.inr (Or.inr (Or.inr (Or.inr (Or.inr ⟨rfl, rfl, rfl, rfl, rfl, HE.out rfl rfl rfl rfl rfl⟩))))
  clear HE
  rcases key with rfl | ⟨rfl, rfl⟩ | ⟨rfl, rfl, rfl⟩ | ⟨rfl, rfl, rfl, rfl⟩ | ⟨rfl, rfl, rfl, rfl, rfl⟩ | ⟨rfl, rfl, rfl, rfl, rfl, hXY⟩
  case' inr.inr.inr.inr.inr => rw [← hXY] at HA3
  all_goals (
    go_wp2_with (first
      | ((with_reducible apply list_box); exact rfl; intro _ _)
      | ((with_reducible apply ls_alloc); infer_instance; intro _ _)
      | ((with_reducible apply ls_load); exact rfl; infer_instance; infer_instance)
      | ((with_reducible apply ls_store); exact rfl; exact rfl; infer_instance; infer_instance; infer_instance; intro _)
      | (go_at_call 10; (with_reducible refine (HM4.out _).mono ?_); rintro e w' ⟨rfl, hb'⟩; obtain ⟨_, rfl⟩ := KW.go _ hb'; clear hb')
      | (go_at_call 10; (with_reducible refine (HM5.out _).mono ?_); rintro e w' ⟨rfl, hb'⟩; obtain ⟨_, rfl⟩ := KW.go _ hb'; clear hb')
      | (go_at_call 8; (with_reducible refine (HA3.out _).mono ?_); rintro e w' ⟨rfl, hb'⟩; obtain ⟨_, rfl⟩ := KW.go _ hb'; clear hb')
      | (go_at_call 18; (with_reducible refine (HW.out _ (HT.out.later (KW.below _) (Nat.le_refl _))).mono ?_); rintro e w' ⟨rfl, hb'⟩; obtain ⟨_, rfl⟩ := KW.go _ hb'; clear hb'))
    go_ret
    exact ⟨rfl, KW.below _⟩)
end Go.Proofs.YtmmnekcnaohnbaaDoor.SignW
