/-
  The document's own answers of layer 4: quotient and rest: a contract over the translation.
-/
import Derived.Test.YtiklebonkpjlpaaDoorQuotMath2
import Derived.Test.YtiklebonkpjlpaaDoorQuot4
import Derived.Test.YtiklebonkpjlpaaDoorWideRef2
import Derived.Test.YtiklebonkpjlpaaDoorAny
namespace Go.Proofs.YtiklebonkpjlpaaDoor.QuotW
open Go.RowKit
open DigM WideM WideV KM DigW WideW QuotM
set_option maxRecDepth 100000 in
set_option maxHeartbeats 3200000 in
theorem refOver_any (a b : Nat) (ha : Hid (a < M)) (hb : Hid (b < M)) (hp : Hid (0 < b)) (w : World) : Calls Tryd.prog 8 #[wv a, wv b] w (Ret (.tuple #[wv (a / b), wv (a % b)]) w) := by
  have HDA := Lib.hid (fun w => digits32_any a ha w)
  have HDB := Lib.hid (fun w => digits32_any b hb w)
  have HQ : Hid (low (a / b) = a / b) := Lib.hid (low_of (Nat.lt_of_le_of_lt (Nat.div_le_self a b) ha.out))
  have HR : Hid (low (a % b) = a % b) := Lib.hid (low_of (Nat.lt_trans (Nat.mod_lt _ hp.out) hb.out))
  unfold wv
  refine enter fun u => ?_
  go_enter Tryd.func8, Tryd.ntmps8
  go_wp2_with (first
    | ((with_reducible apply list_box); exact rfl; intro _ _)
    | ((with_reducible apply list_alloc); exact zeroW; intro _ _))
  simp only [Act.put, List.setIfInBounds_toArray, List.set_cons_succ, List.set_cons_zero]
  refine region_mix [(true, 0), (true, 2), (false, 1), (false, 3), (false, 4), (true, 5), (true, 6), (true, 7), (false, 8), (false, 9)] _ (Sub.both (h := Sub.both (h := Sub.both (h := Sub.both (h := Sub.nil))))) (by kernel_rfl) (by kernel_rfl) (fun _ _ _ _ _ h => by simp only [Exit.then, Exit.inBlock, bodyPost, defers_put] at h ⊢; exact h) ?_
  intro u2 _
  simp only [picks, List.filterMap_cons, List.filterMap_nil, List.getElem?_cons_zero, List.getElem?_cons_succ, Option.map_some]
  (with_reducible apply mix_load); exact rfl; infer_instance; exact rowW; exact cells_size _ _
  (with_reducible apply mix_load); exact rfl; infer_instance; exact rowW; exact cells_size _ _
  simp only [Act.put, List.setIfInBounds_toArray, List.set_cons_succ, List.set_cons_zero]
  refine mix_enter (f := 15) (args := #[wv a]) (by go_simp) ?_
  refine (HDA.out _).mono ?_
  rintro e w1 ⟨v1, x, rfl, ⟨hx1, hx2, hx3⟩, o1, b1⟩
  obtain ⟨u3, rfl⟩ := u2.go b1
  refine ⟨v1, rfl, ⟨u3, rfl⟩, ?_⟩
  simp only [Act.put, List.setIfInBounds_toArray, List.set_cons_succ, List.set_cons_zero]
  refine mix_enter (f := 15) (args := #[wv b]) (by go_simp) ?_
  refine (HDB.out _).mono ?_
  rintro e w2 ⟨v2, y, rfl, ⟨hy1, hy2, hy3⟩, o2, b2⟩
  have R1 := o1.rd.later b2 (Nat.le_refl _)
  obtain ⟨u4, rfl⟩ := u3.go b2
  refine ⟨v2, rfl, ⟨u4, rfl⟩, ?_⟩
  simp only [Act.put, List.setIfInBounds_toArray, List.set_cons_succ, List.set_cons_zero]
  refine mix_enter (f := 26) (args := #[v1, v2]) (by go_simp) ?_
  refine (over_any _ _ x y _ R1 o2.rd hx1 hy1 (by rw [hy2]; exact hp.out) (by omega) (by omega)).mono ?_
  rintro e w3 ⟨v3, v4, qs, rs, rfl, gq, gr, hvq, hvr, hlq, hlr, o3, o4, b3⟩
  rw [hx2, hy2] at hvq hvr
  have hlq' : qs.length ≤ 1048576 := by omega
  have hlr' : rs.length ≤ 1048576 := by omega
  have RQ := o3.rd
  have RR := o4.rd
  have HVQ := Lib.hid hvq
  have HVR := Lib.hid hvr
  obtain ⟨u5, rfl⟩ := u4.go b3
  refine ⟨_, rfl, ⟨u5, rfl⟩, ?_⟩
  clear hvq hvr hlq hlr o1 o2 o3 o4 b1 b2 b3 R1 hx1 hx2 hx3 hy1 hy2 hy3
  simp only [Act.put, List.setIfInBounds_toArray, List.set_cons_succ, List.set_cons_zero]
  refine mix_value (v := .tuple #[v3, v4]) (by intro w; go_simp) ?_
  simp only [Act.put, List.setIfInBounds_toArray, List.set_cons_succ, List.set_cons_zero]
  refine mix_value (v := v3) (by intro w; go_simp) ?_
  simp only [Act.put, List.setIfInBounds_toArray, List.set_cons_succ, List.set_cons_zero]
  refine mix_value (v := v4) (by intro w; go_simp) ?_
  simp only [Act.put, List.setIfInBounds_toArray, List.set_cons_succ, List.set_cons_zero]
  refine mix_then (v := v3) (by go_simp) ⟨u5, rfl⟩ ?_
  simp only [Act.put, List.setIfInBounds_toArray, List.set_cons_succ, List.set_cons_zero]
  refine mix_then (v := v4) (by go_simp) ⟨u5, rfl⟩ ?_
  simp only [Act.put, List.setIfInBounds_toArray, List.set_cons_succ, List.set_cons_zero]
  refine mix_nil ?_
  go_wp2_with (fail)
  have FQ := refWide_any v3 qs u5.w RQ gq hlq'
  rw [HVQ.out, HQ.out] at FQ
  refine FQ.mono ?_
  rintro e w6 ⟨rfl, b6⟩
  have RR' := RR.later b6 (Nat.le_refl _)
  obtain ⟨u6, rfl⟩ := u5.go b6
  clear FQ RQ RR b6
  go_wp2_with (first
    | ((with_reducible apply list_alloc_n); exact zeroW; intro g8 u7 hg8 b7)
    | ((with_reducible apply lst_store_k); exact rfl; exact rfl; infer_instance; exact rowW; exact cells_size _ _; exact cells_size _ _; exact cells_one _ _; intro u8 _ hb8))
  have RR2 := RR'.later (b7.trans (hb8 _ hg8)) (Nat.le_refl _)
  clear b7 hb8 RR'
  have FR := refWide_any v4 rs u8.w RR2 gr hlr'
  rw [HVR.out, HR.out] at FR
  refine FR.mono ?_
  rintro e w9 ⟨rfl, b9⟩
  obtain ⟨u9, rfl⟩ := u8.go b9
  clear FR RR2 b9
  go_wp2_with (first
    | ((with_reducible apply list_alloc); exact zeroW; intro g10 u10)
    | ((with_reducible apply lst_store); exact rfl; exact rfl; infer_instance; exact rowW; exact cells_size _ _; exact cells_size _ _; exact cells_one _ _; intro u11))
  refine region_any [0, 1] [2, 3] _ (Sub.both (h := Sub.both (h := Sub.nil))) (by kernel_rfl) (by kernel_rfl) ?_
  simp only [pick, List.filterMap_cons, List.filterMap_nil, List.getElem?_cons_zero, List.getElem?_cons_succ]
  (with_reducible apply head_load); exact rfl; infer_instance; exact rowW; exact cells_size _ _
  (with_reducible apply head_load); exact rfl; infer_instance; exact rowW; exact cells_size _ _
  refine head_nil ?_
  (with_reducible apply tailS_store); exact rfl; exact rfl; infer_instance; infer_instance; exact rowW; exact cells_size _ _; exact cells_size _ _; exact cells_one _ _
  (with_reducible apply tailS_store); exact rfl; exact rfl; infer_instance; infer_instance; exact rowW; exact cells_size _ _; exact cells_size _ _; exact cells_one _ _
  refine tailS_nil fun u12 => ?_
  go_wp2_with (fail)
  exact body_cell2 Tryd.results8 rfl rfl rowW (cells_size _ _) rowW (cells_size _ _) ⟨rfl, KW.below _⟩
end Go.Proofs.YtiklebonkpjlpaaDoor.QuotW
