/-
  The document's own answers of layer 5: order, digits: contracts over the translation.
-/
import Derived.Test.YtmmnekcnaohnbaaDoorSignRef2
namespace Go.Proofs.YtmmnekcnaohnbaaDoor.SignW
open Go.RowKit
open DigM WideM WideV KM DigW WideW QuotW QuotM DecM FmtW SignM
open Go.Lib (decDigits nDigits)
/-- what is left of a comparison: a number z that may be, which lies to 0 as the difference does -/
theorem cmp_cases (z : Int) : (ng z = true ∧ cmpZ z = -1) ∨ (ng z = false ∧ z.natAbs = 0 ∧ cmpZ z = 0) ∨ (ng z = false ∧ z.natAbs ≠ 0 ∧ cmpZ z = 1) := by
  unfold ng cmpZ
  by_cases h : z < 0
  · exact Or.inl ⟨decide_eq_true h, if_pos h⟩
  · rw [if_neg h]
    by_cases h0 : z = 0
    · exact Or.inr (Or.inl ⟨decide_eq_false h, by omega, if_pos h0⟩)
    · exact Or.inr (Or.inr ⟨decide_eq_false h, by omega, if_neg h0⟩)
theorem cmpZ_far {x y : Int} (_hx : x.natAbs < M) (hy : y.natAbs < M) (h : ¬ (x - y).natAbs < M) : cmpZ x = cmpZ (x - y) := by
  unfold cmpZ
  by_cases h1 : x < 0
  · rw [if_pos h1, if_pos (by omega)]
  · rw [if_neg h1, if_neg (by omega), if_neg (by omega), if_neg (by omega)]
theorem eqF5 (y : Nat) (hy : y < M) (h : ¬ y = 0) (w : World) : (Op.equalIn 10000 24 (.agg (cells 8 y)) (.agg (cells 8 0))).run Tryd.prog w = .ok false w := by
  rw [eqlW y 0 hy M_pos w, show eqB y 0 = false from decide_eq_false h]
set_option maxRecDepth 100000 in
set_option maxHeartbeats 6400000 in
theorem rcmp_fit (s t : Bool) (a b : Nat) (ha : Hid (a < M)) (hb : Hid (b < M)) (hf : (sg s a - sg t b).natAbs < M) (w : World) : Calls Tryd.prog 15 #[iv s a, iv t b] w (Ret (.int .i64 (cmpZ (sg s a - sg t b))) w) := by
  have HX := Lib.hid (fun w => rfix_any s a ha w)
  have HY := Lib.hid (fun w => rless_any t b hb w)
  have hy0 := nv_lt (show (sg t b).natAbs < M by rw [sg_abs]; exact hb.out)
  have hxM : (sg s a).natAbs < M := by rw [sg_abs]; exact ha.out
  have HA := fun w => radd_any (ng (sg s a)) (ng (- sg t b)) (sg s a).natAbs (- sg t b).natAbs (Lib.hid hxM) (Lib.hid hy0) w
  rw [sg_ng, sg_ng, ← Int.sub_eq_add_neg] at HA
  rw [fv_fit hf] at HA
  have hc := cmp_cases (sg s a - sg t b)
  have HM := Lib.hid hf
  have HA := Lib.hid HA
  clear hy0 hxM hf
  unfold nv at HX HY HA
  generalize cmpZ (sg s a - sg t b) = c at *
  generalize ng (sg s a - sg t b) = p at *
  generalize (sg s a - sg t b).natAbs = m at *
  generalize ng (sg s a) = px at *
  generalize (sg s a).natAbs = mx at *
  generalize ng (- sg t b) = py at *
  generalize (- sg t b).natAbs = my at *
  refine enter fun u => ?_
  go_enter Tryd.func15, Tryd.ntmps15
  go_wp2_with (first
    | ((with_reducible apply list_box); exact rfl; intro _ _))
  try simp only [Act.put, List.setIfInBounds_toArray, List.set_cons_succ, List.set_cons_zero]
  refine region_mixS [.take 0, .take 2, .take 1, .take 3, .take 4, .take 5, .take 6, .take 7, .sole 8, .sole 9, .sole 10] _ (Sub.both (h := Sub.both (h := Sub.nil))) (by kernel_rfl) (by kernel_rfl) ?_
  simp only [picksM, Mv.pick, List.filterMap_cons, List.filterMap_nil, List.getElem?_cons_zero, List.getElem?_cons_succ, Option.map_some]
  refine sm_load rfl inferInstance inferInstance ?_
  try simp only [Act.put, List.setIfInBounds_toArray, List.set_cons_succ, List.set_cons_zero]
  refine sm_load rfl inferInstance inferInstance ?_
  try simp only [Act.put, List.setIfInBounds_toArray, List.set_cons_succ, List.set_cons_zero]
  refine sm_call (f := 7) (args := #[iv s a]) (by intro w; go_simp) (fun _ u => HX.out _) ?_
  try simp only [Act.put, List.setIfInBounds_toArray, List.set_cons_succ, List.set_cons_zero]
  refine sm_call (f := 12) (args := #[iv t b]) (by intro w; go_simp) (fun _ u => HY.out _) ?_
  try simp only [Act.put, List.setIfInBounds_toArray, List.set_cons_succ, List.set_cons_zero]
  refine sm_call (f := 11) (args := #[iv px mx, iv py my]) (by intro w; go_simp) (fun _ u => HA.out _) ?_
  try simp only [Act.put, List.setIfInBounds_toArray, List.set_cons_succ, List.set_cons_zero]
  refine sm_value (v := .tuple #[iv p m, .bool true]) (by intro w; go_simp) ?_
  try simp only [Act.put, List.setIfInBounds_toArray, List.set_cons_succ, List.set_cons_zero]
  refine sm_value (v := iv p m) (by intro w; go_simp) ?_
  try simp only [Act.put, List.setIfInBounds_toArray, List.set_cons_succ, List.set_cons_zero]
  refine sm_value (v := .bool true) (by intro w; go_simp) ?_
  try simp only [Act.put, List.setIfInBounds_toArray, List.set_cons_succ, List.set_cons_zero]
  refine so_alloc inferInstance inferInstance fun _ => ?_
  try simp only [Act.put, List.setIfInBounds_toArray, List.set_cons_succ, List.set_cons_zero]
  refine so_store rfl rfl inferInstance inferInstance inferInstance inferInstance ?_
  try simp only [Act.put, List.setIfInBounds_toArray, List.set_cons_succ, List.set_cons_zero]
  refine so_value (v := .bool true) inferInstance (by intro w; go_simp) ?_
  try simp only [Act.put, List.setIfInBounds_toArray, List.set_cons_succ, List.set_cons_zero]
  refine sm_nil fun u7 => ?_
  rcases hc with ⟨rfl, rfl⟩ | ⟨rfl, rfl, rfl⟩ | ⟨rfl, hm, rfl⟩
  · go_wp2_with (first
      | ((with_reducible apply ls_load); exact rfl; infer_instance; infer_instance)
      | ((with_reducible apply ls_store); exact rfl; exact rfl; infer_instance; infer_instance; infer_instance; intro _))
    go_ret
    exact ⟨rfl, KW.below _⟩
  · go_wp2_with (first
      | ((with_reducible apply ls_load); exact rfl; infer_instance; infer_instance)
      | ((with_reducible apply ls_store); exact rfl; exact rfl; infer_instance; infer_instance; infer_instance; intro _)
      | (with_reducible apply ls_W0))
    go_ret
    exact ⟨rfl, KW.below _⟩
  · have heq := eqF5 m HM.out hm
    clear hm
    go_wp2_with (first
      | ((with_reducible apply ls_load); exact rfl; infer_instance; infer_instance)
      | ((with_reducible apply ls_store); exact rfl; exact rfl; infer_instance; infer_instance; infer_instance; intro _)
      | (with_reducible apply ls_W0))
    go_ret
    exact ⟨rfl, KW.below _⟩
set_option maxRecDepth 100000 in
set_option maxHeartbeats 6400000 in
theorem rcmp_big (s t : Bool) (a b : Nat) (ha : Hid (a < M)) (hb : Hid (b < M)) (hf : ¬ (sg s a - sg t b).natAbs < M) (w : World) : Calls Tryd.prog 15 #[iv s a, iv t b] w (Ret (.int .i64 (cmpZ (sg s a - sg t b))) w) := by
  have HX := Lib.hid (fun w => rfix_any s a ha w)
  have HY := Lib.hid (fun w => rless_any t b hb w)
  have hy0 := nv_lt (show (sg t b).natAbs < M by rw [sg_abs]; exact hb.out)
  have hxM : (sg s a).natAbs < M := by rw [sg_abs]; exact ha.out
  have HA := fun w => radd_any (ng (sg s a)) (ng (- sg t b)) (sg s a).natAbs (- sg t b).natAbs (Lib.hid hxM) (Lib.hid hy0) w
  rw [sg_ng, sg_ng, ← Int.sub_eq_add_neg] at HA
  rw [fv_big hf] at HA
  have hc := cmp_cases (sg s a)
  have e := cmpZ_far hxM (show (sg t b).natAbs < M by rw [sg_abs]; exact hb.out) hf
  rw [e] at hc
  have HM := Lib.hid hxM
  have HA := Lib.hid HA
  clear hy0 hf e hxM
  unfold nv at HX HY
  generalize cmpZ (sg s a - sg t b) = c at *
  generalize ng (sg s a) = p at *
  generalize (sg s a).natAbs = m at *
  generalize ng (- sg t b) = py at *
  generalize (- sg t b).natAbs = my at *
  refine enter fun u => ?_
  go_enter Tryd.func15, Tryd.ntmps15
  go_wp2_with (first
    | ((with_reducible apply list_box); exact rfl; intro _ _))
  try simp only [Act.put, List.setIfInBounds_toArray, List.set_cons_succ, List.set_cons_zero]
  refine region_mixS [.take 0, .take 2, .take 1, .take 3, .take 4, .take 5, .take 6, .take 7, .sole 8, .sole 9, .sole 10] _ (Sub.both (h := Sub.both (h := Sub.nil))) (by kernel_rfl) (by kernel_rfl) ?_
  simp only [picksM, Mv.pick, List.filterMap_cons, List.filterMap_nil, List.getElem?_cons_zero, List.getElem?_cons_succ, Option.map_some]
  refine sm_load rfl inferInstance inferInstance ?_
  try simp only [Act.put, List.setIfInBounds_toArray, List.set_cons_succ, List.set_cons_zero]
  refine sm_load rfl inferInstance inferInstance ?_
  try simp only [Act.put, List.setIfInBounds_toArray, List.set_cons_succ, List.set_cons_zero]
  refine sm_call (f := 7) (args := #[iv s a]) (by intro w; go_simp) (fun _ u => HX.out _) ?_
  try simp only [Act.put, List.setIfInBounds_toArray, List.set_cons_succ, List.set_cons_zero]
  refine sm_call (f := 12) (args := #[iv t b]) (by intro w; go_simp) (fun _ u => HY.out _) ?_
  try simp only [Act.put, List.setIfInBounds_toArray, List.set_cons_succ, List.set_cons_zero]
  refine sm_call (f := 11) (args := #[iv p m, iv py my]) (by intro w; go_simp) (fun _ u => HA.out _) ?_
  try simp only [Act.put, List.setIfInBounds_toArray, List.set_cons_succ, List.set_cons_zero]
  refine sm_value (v := .tuple #[iv false 0, .bool false]) (by intro w; go_simp) ?_
  try simp only [Act.put, List.setIfInBounds_toArray, List.set_cons_succ, List.set_cons_zero]
  refine sm_value (v := iv false 0) (by intro w; go_simp) ?_
  try simp only [Act.put, List.setIfInBounds_toArray, List.set_cons_succ, List.set_cons_zero]
  refine sm_value (v := .bool false) (by intro w; go_simp) ?_
  try simp only [Act.put, List.setIfInBounds_toArray, List.set_cons_succ, List.set_cons_zero]
  refine so_alloc inferInstance inferInstance fun _ => ?_
  try simp only [Act.put, List.setIfInBounds_toArray, List.set_cons_succ, List.set_cons_zero]
  refine so_store rfl rfl inferInstance inferInstance inferInstance inferInstance ?_
  try simp only [Act.put, List.setIfInBounds_toArray, List.set_cons_succ, List.set_cons_zero]
  refine so_value (v := .bool false) inferInstance (by intro w; go_simp) ?_
  try simp only [Act.put, List.setIfInBounds_toArray, List.set_cons_succ, List.set_cons_zero]
  refine sm_nil fun u7 => ?_
  rcases hc with ⟨rfl, rfl⟩ | ⟨rfl, rfl, rfl⟩ | ⟨rfl, hm, rfl⟩
  · go_wp2_with (first
      | ((with_reducible apply ls_load); exact rfl; infer_instance; infer_instance)
      | ((with_reducible apply ls_store); exact rfl; exact rfl; infer_instance; infer_instance; infer_instance; intro _)
      | (go_at_call 7; (with_reducible refine (HX.out _).mono ?_); rintro e w' ⟨rfl, hb'⟩; obtain ⟨_, rfl⟩ := KW.go _ hb'; clear hb'))
    go_ret
    exact ⟨rfl, KW.below _⟩
  · go_wp2_with (first
      | ((with_reducible apply ls_load); exact rfl; infer_instance; infer_instance)
      | ((with_reducible apply ls_store); exact rfl; exact rfl; infer_instance; infer_instance; infer_instance; intro _)
      | (with_reducible apply ls_W0)
      | (go_at_call 7; (with_reducible refine (HX.out _).mono ?_); rintro e w' ⟨rfl, hb'⟩; obtain ⟨_, rfl⟩ := KW.go _ hb'; clear hb'))
    go_ret
    exact ⟨rfl, KW.below _⟩
  · have heq := eqF5 m HM.out hm
    clear hm
    go_wp2_with (first
      | ((with_reducible apply ls_load); exact rfl; infer_instance; infer_instance)
      | ((with_reducible apply ls_store); exact rfl; exact rfl; infer_instance; infer_instance; infer_instance; intro _)
      | (with_reducible apply ls_W0)
      | (go_at_call 7; (with_reducible refine (HX.out _).mono ?_); rintro e w' ⟨rfl, hb'⟩; obtain ⟨_, rfl⟩ := KW.go _ hb'; clear hb'))
    go_ret
    exact ⟨rfl, KW.below _⟩
theorem rcmp_any (s t : Bool) (a b : Nat) (ha : Hid (a < M)) (hb : Hid (b < M)) (w : World) : Calls Tryd.prog 15 #[iv s a, iv t b] w (Ret (.int .i64 (cmpZ (sg s a - sg t b))) w) := by
  by_cases hf : (sg s a - sg t b).natAbs < M
  · exact rcmp_fit s t a b ha hb hf w
  · exact rcmp_big s t a b ha hb hf w
set_option maxRecDepth 100000 in
set_option maxHeartbeats 3200000 in
theorem rtext_any (s : Bool) (a : Nat) (ha : Hid (a < M)) (w : World) : Calls Tryd.prog 24 #[iv s a] w (Ret (vs (zdec (sg s a))) w) := by
  have HX := Lib.hid (fun w => refText_any a ha w)
  have HF := Lib.hid (fun w => rfix_any s a ha w)
  have hl := dec_small a ha.out
  have hab := sg_abs s a
  unfold zdec
  rw [hab]
  unfold nv at HF
  rw [hab] at HF
  obtain ⟨p, hp⟩ : ∃ p, ng (sg s a) = p := ⟨_, rfl⟩
  rw [hp] at HF
  obtain ⟨t, hts⟩ : ∃ t : ByteArray, t = ⟨(decDigits a).toArray⟩ := ⟨_, rfl⟩
  have hsz : t.size ≤ 200 := by rw [hts, ba_size]; exact hl
  unfold vs
  rw [← hts] at HX
  refine enter fun u => ?_
  go_enter Tryd.func24, Tryd.ntmps24
  cases p
  · rw [if_neg (of_decide_eq_false hp), ← hts]
    clear hp hts hl hab
    go_wp2_with (first
      | ((with_reducible apply list_box); exact rfl; intro _ _)
      | ((with_reducible apply ls_load); exact rfl; infer_instance; infer_instance)
      | (go_at_call 41; (with_reducible refine (HX.out _).mono ?_); rintro e w' ⟨rfl, hb'⟩; obtain ⟨_, rfl⟩ := KW.go _ hb'; clear hb')
      | (go_at_call 7; (with_reducible refine (HF.out _).mono ?_); rintro e w' ⟨rfl, hb'⟩; obtain ⟨_, rfl⟩ := KW.go _ hb'; clear hb'))
    go_ret
    exact ⟨rfl, KW.below _⟩
  · rw [if_pos (of_decide_eq_true hp), ← minus_app (decDigits a), ← hts]
    clear hp hts hl hab
    go_wp2_with (first
      | ((with_reducible apply list_box); exact rfl; intro _ _)
      | ((with_reducible apply ls_load); exact rfl; infer_instance; infer_instance)
      | (go_at_call 41; (with_reducible refine (HX.out _).mono ?_); rintro e w' ⟨rfl, hb'⟩; obtain ⟨_, rfl⟩ := KW.go _ hb'; clear hb')
      | (go_at_call 7; (with_reducible refine (HF.out _).mono ?_); rintro e w' ⟨rfl, hb'⟩; obtain ⟨_, rfl⟩ := KW.go _ hb'; clear hb'))
    go_ret
    exact ⟨rfl, KW.below _⟩
end Go.Proofs.YtmmnekcnaohnbaaDoor.SignW
