/-
  The document's own answers of layer 5: contracts over the translation.
-/
import Derived.Test.YtmmnekcnaohnbaaDoorSign4
namespace Go.Proofs.YtmmnekcnaohnbaaDoor.SignW
open Go.RowKit
open DigM WideM WideV KM DigW WideW QuotW QuotM DecM FmtW SignM
open Go.Lib (decDigits nDigits)
set_option maxRecDepth 100000 in
set_option maxHeartbeats 3200000 in
theorem rfix_any (s : Bool) (n : Nat) (hn : Hid (n < M)) (w : World) : Calls Tryd.prog 7 #[iv s n] w (Ret (nv (sg s n)) w) := by
  rw [nv_sg]
  have heq := fun w => eqlW n 0 hn.out M_pos w
  by_cases h : n = 0
  · subst h
    rw [show (s && !eqB 0 0) = false by rw [eqB_same]; cases s <;> rfl]
    clear heq
    refine enter fun u => ?_
    go_enter Tryd.func7, Tryd.ntmps7
    go_wp2_with (first
      | ((with_reducible apply list_box); exact rfl; intro _ _)
      | ((with_reducible apply ls_alloc); infer_instance; intro _ _)
      | ((with_reducible apply ls_load); exact rfl; infer_instance; infer_instance)
      | ((with_reducible apply ls_store); exact rfl; exact rfl; infer_instance; infer_instance; infer_instance; intro _)
      | (with_reducible apply ls_W0)
      | ((with_reducible apply (ls_put (v := .bool _))); exact rfl; exact rfl; infer_instance; infer_instance; infer_instance; intro _))
    exact bd_cell Tryd.results7 rfl inferInstance inferInstance ⟨rfl, KW.below _⟩
  · rw [show eqB n 0 = false from decide_eq_false h] at heq ⊢
    rw [show (s && !false) = s by cases s <;> rfl]
    clear h
    refine enter fun u => ?_
    go_enter Tryd.func7, Tryd.ntmps7
    go_wp2_with (first
      | ((with_reducible apply list_box); exact rfl; intro _ _)
      | ((with_reducible apply ls_alloc); infer_instance; intro _ _)
      | ((with_reducible apply ls_load); exact rfl; infer_instance; infer_instance)
      | ((with_reducible apply ls_store); exact rfl; exact rfl; infer_instance; infer_instance; infer_instance; intro _)
      | (with_reducible apply ls_W0))
    exact bd_cell Tryd.results7 rfl inferInstance inferInstance ⟨rfl, KW.below _⟩
set_option maxRecDepth 100000 in
set_option maxHeartbeats 3200000 in
theorem rless_any (s : Bool) (n : Nat) (hn : Hid (n < M)) (w : World) : Calls Tryd.prog 12 #[iv s n] w (Ret (nv (- sg s n)) w) := by
  have HF := Lib.hid (fun w => rfix_any (!s) n hn w)
  rw [← sg_not]
  refine enter fun u => ?_
  go_enter Tryd.func12, Tryd.ntmps12
  go_wp2_with (first
    | ((with_reducible apply list_box); exact rfl; intro _ _)
    | ((with_reducible apply ls_alloc); infer_instance; intro _ _)
    | ((with_reducible apply ls_load); exact rfl; infer_instance; infer_instance)
    | ((with_reducible apply ls_store); exact rfl; exact rfl; infer_instance; infer_instance; infer_instance; intro _)
    | ((with_reducible apply ls_I); exact rfl; exact rfl)
    | (go_at_call 7; (with_reducible refine (HF.out _).mono ?_); rintro e w' ⟨rfl, hb'⟩; obtain ⟨_, rfl⟩ := KW.go _ hb'; clear hb'))
  exact bd_cell Tryd.results12 rfl inferInstance inferInstance ⟨rfl, KW.below _⟩
set_option maxRecDepth 100000 in
set_option maxHeartbeats 3200000 in
theorem rof_any (z : Int) (h1 : -9223372036854775808 ≤ z) (h2 : z ≤ 9223372036854775807) (w : World) : Calls Tryd.prog 22 #[.int .i64 z] w (Ret (nv z) w) := by
  unfold nv
  by_cases h : z < 0
  · obtain ⟨m, rfl⟩ : ∃ m : Nat, z = -(m : Int) - 1 := ⟨(-z-1).toNat, by omega⟩
    have e1 : -(m : Int) - 1 + 1 = -(m : Int) := by omega
    have e2 : IntKind.i64.wrap (-(m : Int)) = -(m : Int) := by rw [IntKind.wrap_i64]; omega
    have e3 : (-(m : Int) - 1).natAbs = m + 1 := by omega
    have hd : ng (-(m : Int) - 1) = true := decide_eq_true h
    have HB : Hid (m + 1 < B) := Lib.hid (by rw [B_eq]; omega)
    rw [hd, e3]
    refine enter fun u => ?_
    go_enter Tryd.func22, Tryd.ntmps22
    have e4 : IntKind.i64.wrap (m : Int) = m := by rw [IntKind.wrap_i64]; omega
    have e5 : IntKind.u64.wrap (m : Int) = m := by rw [IntKind.wrap_u64]; omega
    have e6 : IntKind.u64.wrap ((m : Int) + 1) = ((m + 1 : Nat) : Int) := by rw [IntKind.wrap_u64]; omega
    go_wp2_with (first
      | ((with_reducible apply ls_alloc); infer_instance; intro _ _)
      | ((with_reducible apply ls_load); exact rfl; infer_instance; infer_instance)
      | ((with_reducible apply ls_store); exact rfl; exact rfl; infer_instance; infer_instance; infer_instance; intro _)
      | ((with_reducible apply ls_I); exact rfl; exact rfl)
      | ((with_reducible apply ls_W1); exact rfl; exact HB))
    exact bd_cell Tryd.results22 rfl inferInstance inferInstance ⟨rfl, KW.below _⟩
  · obtain ⟨m, rfl⟩ : ∃ m : Nat, z = (m : Int) := ⟨z.toNat, by omega⟩
    have hd : ng (m : Int) = false := decide_eq_false h
    have HB : Hid (m < B) := Lib.hid (by rw [B_eq]; omega)
    rw [hd, Int.natAbs_natCast]
    refine enter fun u => ?_
    go_enter Tryd.func22, Tryd.ntmps22
    go_wp2_with (first
      | ((with_reducible apply ls_alloc); infer_instance; intro _ _)
      | ((with_reducible apply ls_load); exact rfl; infer_instance; infer_instance)
      | ((with_reducible apply ls_store); exact rfl; exact rfl; infer_instance; infer_instance; infer_instance; intro _)
      | ((with_reducible apply ls_I1); exact rfl)
      | ((with_reducible apply ls_W1); exact rfl; exact HB))
    exact bd_cell Tryd.results22 rfl inferInstance inferInstance ⟨rfl, KW.below _⟩
set_option maxRecDepth 100000 in
set_option maxHeartbeats 6400000 in
theorem radd_fit (s : Bool) (a b : Nat) (ha : Hid (a < M)) (hb : Hid (b < M)) (hf : a + b < M) (w : World) : Calls Tryd.prog 11 #[iv s a, iv s b] w (Ret (fv (sg s a + sg s b)) w) := by
  have HDA := Lib.hid (fun w => digits32_any a ha w)
  have HDB := Lib.hid (fun w => digits32_any b hb w)
  rw [← sg_same, fv_fit (by rw [sg_abs]; exact hf)]
  have HF := Lib.hid (fun (d : Nat) (hd : d < M) w => rfix_any s d (Lib.hid hd) w)
  refine enter fun u => ?_
  go_enter Tryd.func11, Tryd.ntmps11
  go_wp2_with (first
    | ((with_reducible apply list_box); exact rfl; intro _ _)
    | ((with_reducible apply ls_alloc); infer_instance; intro _ _))
  try simp only [Act.put, List.setIfInBounds_toArray, List.set_cons_succ, List.set_cons_zero]
  refine region_mix [(true, 0), (true, 1), (true, 3), (true, 4), (false, 2), (false, 5), (false, 6), (false, 7)] _ (Sub.both (h := Sub.both (h := Sub.both (h := Sub.nil)))) (by kernel_rfl) (by kernel_rfl) (fun _ _ _ _ _ h => by first | (simp only [Exit.then, bodyPost, defers_put] at h ⊢; exact h) | (simp only [Exit.then, Exit.inBlock, bodyPost, defers_put] at h ⊢; exact h)) ?_
  intro u5 _
  simp only [picks, List.filterMap_cons, List.filterMap_nil, List.getElem?_cons_zero, List.getElem?_cons_succ, Option.map_some]
  refine mixg_value (v := _) (by rfl) (exec_mag rfl) ?_
  try simp only [Act.put, List.setIfInBounds_toArray, List.set_cons_succ, List.set_cons_zero]
  refine mixg_part (by rfl) rfl inferInstance inferInstance ?_
  try simp only [Act.put, List.setIfInBounds_toArray, List.set_cons_succ, List.set_cons_zero]
  refine mixg_value (v := _) (by rfl) (exec_mag rfl) ?_
  try simp only [Act.put, List.setIfInBounds_toArray, List.set_cons_succ, List.set_cons_zero]
  refine mixg_part (by rfl) rfl inferInstance inferInstance ?_
  try simp only [Act.put, List.setIfInBounds_toArray, List.set_cons_succ, List.set_cons_zero]
  refine mixg_enter (f := 29) (args := #[wv a]) (by rfl) (by go_simp) ?_
  refine (HDA.out _).mono ?_
  rintro e w1 ⟨v1, x, rfl, ⟨hx1, hx2, hx3⟩, o1, b1⟩
  obtain ⟨u6, rfl⟩ := u5.go b1
  refine ⟨v1, rfl, KW.weak (h := inferInstance) u6, ?_⟩
  try simp only [Act.put, List.setIfInBounds_toArray, List.set_cons_succ, List.set_cons_zero]
  refine mixg_enter (f := 29) (args := #[wv b]) (by rfl) (by go_simp) ?_
  refine (HDB.out _).mono ?_
  rintro e w2 ⟨v2, y, rfl, ⟨hy1, hy2, hy3⟩, o2, b2⟩
  have R1 := o1.rd.later b2 (Nat.le_refl _)
  have R2 := o2.rd
  obtain ⟨u7, rfl⟩ := u6.go b2
  refine ⟨v2, rfl, KW.weak (h := inferInstance) u7, ?_⟩
  clear o1 o2 b1 b2 HDA HDB
  try simp only [Act.put, List.setIfInBounds_toArray, List.set_cons_succ, List.set_cons_zero]
  refine mixg_then (v := v1) (by rfl) (by go_simp) (KW.weak (h := inferInstance) u7) ?_
  try simp only [Act.put, List.setIfInBounds_toArray, List.set_cons_succ, List.set_cons_zero]
  refine mixg_then (v := v2) (by rfl) (by go_simp) (KW.weak (h := inferInstance) u7) ?_
  try simp only [Act.put, List.setIfInBounds_toArray, List.set_cons_succ, List.set_cons_zero]
  refine mix_nil ?_
  go_wp2_with (first
    | ((with_reducible apply ls_load); exact rfl; infer_instance; infer_instance))
  refine (plus_any v1 v2 x y _ R1 R2 hx1 hy1 (by omega) (by omega)).mono ?_
  rintro e w3 ⟨v3, z, rfl, ⟨hz1, hz2, hz3⟩, o3, b3⟩
  have R3 := o3.rd
  obtain ⟨u8, rfl⟩ := u7.go b3
  have FW := refWide_any v3 z _ R3 hz1 (by omega)
  rw [hz2, hx2, hy2] at FW
  clear o3 b3 R3 hz1 hz2 hz3 hx1 hx2 hx3 hy1 hy2 hy3 R1 R2
  rw [low_of hf, show fitB (a + b) = true from decide_eq_true hf] at FW
  have HF := Lib.hid (HF.out (a + b) hf)
  clear hf
  generalize a + b = d at *
  unfold nv at HF ⊢
  generalize sg s d = k at *
  go_wp2_with (fail)
  refine FW.mono ?_
  rintro e w4 ⟨rfl, b4⟩
  obtain ⟨u9, rfl⟩ := u8.go b4
  clear b4 FW
  go_wp2_with (first
    | ((with_reducible apply ls_alloc); infer_instance; intro _ _)
    | ((with_reducible apply ls_load); exact rfl; infer_instance; infer_instance)
    | ((with_reducible apply ls_store); exact rfl; exact rfl; infer_instance; infer_instance; infer_instance; intro _)
    | ((with_reducible apply ls_I); exact rfl; exact rfl)
    | (go_at_call 7; (with_reducible refine (HF.out _).mono ?_); rintro e w' ⟨rfl, hb'⟩; obtain ⟨_, rfl⟩ := KW.go _ hb'; clear hb'))
  exact bd_cell_tmp Tryd.results11 rfl rfl inferInstance inferInstance ⟨rfl, KW.below _⟩
set_option maxRecDepth 100000 in
set_option maxHeartbeats 6400000 in
theorem radd_big (s : Bool) (a b : Nat) (ha : Hid (a < M)) (hb : Hid (b < M)) (hf : ¬ a + b < M) (w : World) : Calls Tryd.prog 11 #[iv s a, iv s b] w (Ret (fv (sg s a + sg s b)) w) := by
  have HDA := Lib.hid (fun w => digits32_any a ha w)
  have HDB := Lib.hid (fun w => digits32_any b hb w)
  rw [← sg_same, fv_big (by rw [sg_abs]; exact hf)]
  have HF := Lib.hid (fun (d : Nat) (hd : d < M) w => rfix_any s d (Lib.hid hd) w)
  refine enter fun u => ?_
  go_enter Tryd.func11, Tryd.ntmps11
  go_wp2_with (first
    | ((with_reducible apply list_box); exact rfl; intro _ _)
    | ((with_reducible apply ls_alloc); infer_instance; intro _ _))
  try simp only [Act.put, List.setIfInBounds_toArray, List.set_cons_succ, List.set_cons_zero]
  refine region_mix [(true, 0), (true, 1), (true, 3), (true, 4), (false, 2), (false, 5), (false, 6), (false, 7)] _ (Sub.both (h := Sub.both (h := Sub.both (h := Sub.nil)))) (by kernel_rfl) (by kernel_rfl) (fun _ _ _ _ _ h => by first | (simp only [Exit.then, bodyPost, defers_put] at h ⊢; exact h) | (simp only [Exit.then, Exit.inBlock, bodyPost, defers_put] at h ⊢; exact h)) ?_
  intro u5 _
  simp only [picks, List.filterMap_cons, List.filterMap_nil, List.getElem?_cons_zero, List.getElem?_cons_succ, Option.map_some]
  refine mixg_value (v := _) (by rfl) (exec_mag rfl) ?_
  try simp only [Act.put, List.setIfInBounds_toArray, List.set_cons_succ, List.set_cons_zero]
  refine mixg_part (by rfl) rfl inferInstance inferInstance ?_
  try simp only [Act.put, List.setIfInBounds_toArray, List.set_cons_succ, List.set_cons_zero]
  refine mixg_value (v := _) (by rfl) (exec_mag rfl) ?_
  try simp only [Act.put, List.setIfInBounds_toArray, List.set_cons_succ, List.set_cons_zero]
  refine mixg_part (by rfl) rfl inferInstance inferInstance ?_
  try simp only [Act.put, List.setIfInBounds_toArray, List.set_cons_succ, List.set_cons_zero]
  refine mixg_enter (f := 29) (args := #[wv a]) (by rfl) (by go_simp) ?_
  refine (HDA.out _).mono ?_
  rintro e w1 ⟨v1, x, rfl, ⟨hx1, hx2, hx3⟩, o1, b1⟩
  obtain ⟨u6, rfl⟩ := u5.go b1
  refine ⟨v1, rfl, KW.weak (h := inferInstance) u6, ?_⟩
  try simp only [Act.put, List.setIfInBounds_toArray, List.set_cons_succ, List.set_cons_zero]
  refine mixg_enter (f := 29) (args := #[wv b]) (by rfl) (by go_simp) ?_
  refine (HDB.out _).mono ?_
  rintro e w2 ⟨v2, y, rfl, ⟨hy1, hy2, hy3⟩, o2, b2⟩
  have R1 := o1.rd.later b2 (Nat.le_refl _)
  have R2 := o2.rd
  obtain ⟨u7, rfl⟩ := u6.go b2
  refine ⟨v2, rfl, KW.weak (h := inferInstance) u7, ?_⟩
  clear o1 o2 b1 b2 HDA HDB
  try simp only [Act.put, List.setIfInBounds_toArray, List.set_cons_succ, List.set_cons_zero]
  refine mixg_then (v := v1) (by rfl) (by go_simp) (KW.weak (h := inferInstance) u7) ?_
  try simp only [Act.put, List.setIfInBounds_toArray, List.set_cons_succ, List.set_cons_zero]
  refine mixg_then (v := v2) (by rfl) (by go_simp) (KW.weak (h := inferInstance) u7) ?_
  try simp only [Act.put, List.setIfInBounds_toArray, List.set_cons_succ, List.set_cons_zero]
  refine mix_nil ?_
  go_wp2_with (first
    | ((with_reducible apply ls_load); exact rfl; infer_instance; infer_instance))
  refine (plus_any v1 v2 x y _ R1 R2 hx1 hy1 (by omega) (by omega)).mono ?_
  rintro e w3 ⟨v3, z, rfl, ⟨hz1, hz2, hz3⟩, o3, b3⟩
  have R3 := o3.rd
  obtain ⟨u8, rfl⟩ := u7.go b3
  have FW := refWide_any v3 z _ R3 hz1 (by omega)
  rw [hz2, hx2, hy2] at FW
  clear o3 b3 R3 hz1 hz2 hz3 hx1 hx2 hx3 hy1 hy2 hy3 R1 R2
  rw [show fitB (a + b) = false from decide_eq_false hf] at FW
  clear hf HF
  generalize low (a + b) = d at *
  go_wp2_with (fail)
  refine FW.mono ?_
  rintro e w4 ⟨rfl, b4⟩
  obtain ⟨u9, rfl⟩ := u8.go b4
  clear b4 FW
  go_wp2_with (first
    | ((with_reducible apply ls_alloc); infer_instance; intro _ _)
    | ((with_reducible apply ls_load); exact rfl; infer_instance; infer_instance)
    | ((with_reducible apply ls_store); exact rfl; exact rfl; infer_instance; infer_instance; infer_instance; intro _)
    | (with_reducible apply ls_I0))
  exact bd_cell_tmp Tryd.results11 rfl rfl inferInstance inferInstance ⟨rfl, KW.below _⟩
set_option maxRecDepth 100000 in
set_option maxHeartbeats 6400000 in
theorem radd_lt (s t : Bool) (a b : Nat) (ha : Hid (a < M)) (hb : Hid (b < M)) (hst : s ≠ t) (hab : a < b) (w : World) : Calls Tryd.prog 11 #[iv s a, iv t b] w (Ret (fv (sg s a + sg t b)) w) := by
  have HDA := Lib.hid (fun w => digits32_any a ha w)
  have HDB := Lib.hid (fun w => digits32_any b hb w)
  rw [fv_fit (apart_lt ha.out hb.out hst)]
  have hd : b - a < M := by have := ha.out; have := hb.out; omega
  have HF := Lib.hid (fun w => rfix_any t (b - a) (Lib.hid hd) w)
  have hL : low (b - a) = b - a := low_of hd
  have hB : fitB (b - a) = true := decide_eq_true hd
  rw [show sg s a + sg t b = sg t (b - a) by rw [Int.add_comm, ← sg_apart (Ne.symm hst) (by omega : a ≤ b)]]
  clear hd
  refine enter fun u => ?_
  go_enter Tryd.func11, Tryd.ntmps11
  go_wp2_with (first
    | ((with_reducible apply list_box); exact rfl; intro _ _)
    | ((with_reducible apply ls_alloc); infer_instance; intro _ _))
  try simp only [Act.put, List.setIfInBounds_toArray, List.set_cons_succ, List.set_cons_zero]
  refine region_mix [(true, 0), (true, 1), (true, 3), (true, 4), (false, 2), (false, 5), (false, 6), (false, 7)] _ (Sub.both (h := Sub.both (h := Sub.both (h := Sub.nil)))) (by kernel_rfl) (by kernel_rfl) (fun _ _ _ _ _ h => by first | (simp only [Exit.then, bodyPost, defers_put] at h ⊢; exact h) | (simp only [Exit.then, Exit.inBlock, bodyPost, defers_put] at h ⊢; exact h)) ?_
  intro u5 _
  simp only [picks, List.filterMap_cons, List.filterMap_nil, List.getElem?_cons_zero, List.getElem?_cons_succ, Option.map_some]
  refine mixg_value (v := _) (by rfl) (exec_mag rfl) ?_
  try simp only [Act.put, List.setIfInBounds_toArray, List.set_cons_succ, List.set_cons_zero]
  refine mixg_part (by rfl) rfl inferInstance inferInstance ?_
  try simp only [Act.put, List.setIfInBounds_toArray, List.set_cons_succ, List.set_cons_zero]
  refine mixg_value (v := _) (by rfl) (exec_mag rfl) ?_
  try simp only [Act.put, List.setIfInBounds_toArray, List.set_cons_succ, List.set_cons_zero]
  refine mixg_part (by rfl) rfl inferInstance inferInstance ?_
  try simp only [Act.put, List.setIfInBounds_toArray, List.set_cons_succ, List.set_cons_zero]
  refine mixg_enter (f := 29) (args := #[wv a]) (by rfl) (by go_simp) ?_
  refine (HDA.out _).mono ?_
  rintro e w1 ⟨v1, x, rfl, ⟨hx1, hx2, hx3⟩, o1, b1⟩
  obtain ⟨u6, rfl⟩ := u5.go b1
  refine ⟨v1, rfl, KW.weak (h := inferInstance) u6, ?_⟩
  try simp only [Act.put, List.setIfInBounds_toArray, List.set_cons_succ, List.set_cons_zero]
  refine mixg_enter (f := 29) (args := #[wv b]) (by rfl) (by go_simp) ?_
  refine (HDB.out _).mono ?_
  rintro e w2 ⟨v2, y, rfl, ⟨hy1, hy2, hy3⟩, o2, b2⟩
  have R1 := o1.rd.later b2 (Nat.le_refl _)
  have R2 := o2.rd
  obtain ⟨u7, rfl⟩ := u6.go b2
  refine ⟨v2, rfl, KW.weak (h := inferInstance) u7, ?_⟩
  clear o1 o2 b1 b2 HDA HDB
  try simp only [Act.put, List.setIfInBounds_toArray, List.set_cons_succ, List.set_cons_zero]
  refine mixg_then (v := v1) (by rfl) (by go_simp) (KW.weak (h := inferInstance) u7) ?_
  try simp only [Act.put, List.setIfInBounds_toArray, List.set_cons_succ, List.set_cons_zero]
  refine mixg_then (v := v2) (by rfl) (by go_simp) (KW.weak (h := inferInstance) u7) ?_
  try simp only [Act.put, List.setIfInBounds_toArray, List.set_cons_succ, List.set_cons_zero]
  refine mix_nil ?_
  have FL := less_any v1 v2 x y u7.w R1 R2 hx1 hy1 (by omega) (by omega)
  rw [show lessB x y = true by unfold lessB; rw [hx2, hy2]; exact decide_eq_true hab] at FL
  cases s <;> cases t <;> first | exact absurd rfl hst | skip
  all_goals (
    go_wp2_with (first
      | ((with_reducible apply ls_load); exact rfl; infer_instance; infer_instance))
    refine FL.mono ?_
    rintro e w' ⟨rfl, rfl⟩
    clear FL
    go_wp2_with (first
      | ((with_reducible apply ls_load); exact rfl; infer_instance; infer_instance))
    refine (minus_any v2 v1 y x _ R2 R1 hy1 hx1 (Lib.hid (by rw [hx2, hy2]; omega)) (by omega) (by omega)).mono ?_
    rintro e w3 ⟨v3, z, rfl, ⟨hz1, hz2, hz3⟩, o3, b3⟩
    have R3 := o3.rd
    obtain ⟨u8, rfl⟩ := u7.go b3
    have FW := refWide_any v3 z _ R3 hz1 (by omega)
    rw [hz2, hx2, hy2, hL, hB] at FW
    clear o3 b3 R3 hz1 hz2 hz3 hx1 hx2 hx3 hy1 hy2 hy3 R1 R2 hL hB
    generalize b - a = d at *
    unfold nv at HF ⊢
    go_wp2_with (fail)
    refine FW.mono ?_
    rintro e w4 ⟨rfl, b4⟩
    obtain ⟨u9, rfl⟩ := u8.go b4
    clear b4 FW
    go_wp2_with (first
      | ((with_reducible apply ls_alloc); infer_instance; intro _ _)
      | ((with_reducible apply ls_load); exact rfl; infer_instance; infer_instance)
      | ((with_reducible apply ls_store); exact rfl; exact rfl; infer_instance; infer_instance; infer_instance; intro _)
      | ((with_reducible apply ls_I); exact rfl; exact rfl)
      | (go_at_call 7; (with_reducible refine (HF.out _).mono ?_); rintro e w' ⟨rfl, hb'⟩; obtain ⟨_, rfl⟩ := KW.go _ hb'; clear hb'))
    exact bd_cell_tmp Tryd.results11 rfl rfl inferInstance inferInstance ⟨rfl, KW.below _⟩)
set_option maxRecDepth 100000 in
set_option maxHeartbeats 6400000 in
theorem radd_ge (s t : Bool) (a b : Nat) (ha : Hid (a < M)) (hb : Hid (b < M)) (hst : s ≠ t) (hab : ¬ a < b) (w : World) : Calls Tryd.prog 11 #[iv s a, iv t b] w (Ret (fv (sg s a + sg t b)) w) := by
  have HDA := Lib.hid (fun w => digits32_any a ha w)
  have HDB := Lib.hid (fun w => digits32_any b hb w)
  rw [fv_fit (apart_lt ha.out hb.out hst)]
  have hd : a - b < M := by have := ha.out; have := hb.out; omega
  have HF := Lib.hid (fun w => rfix_any s (a - b) (Lib.hid hd) w)
  have hL : low (a - b) = a - b := low_of hd
  have hB : fitB (a - b) = true := decide_eq_true hd
  rw [show sg s a + sg t b = sg s (a - b) by rw [← sg_apart hst (by omega : b ≤ a)]]
  clear hd
  refine enter fun u => ?_
  go_enter Tryd.func11, Tryd.ntmps11
  go_wp2_with (first
    | ((with_reducible apply list_box); exact rfl; intro _ _)
    | ((with_reducible apply ls_alloc); infer_instance; intro _ _))
  try simp only [Act.put, List.setIfInBounds_toArray, List.set_cons_succ, List.set_cons_zero]
  refine region_mix [(true, 0), (true, 1), (true, 3), (true, 4), (false, 2), (false, 5), (false, 6), (false, 7)] _ (Sub.both (h := Sub.both (h := Sub.both (h := Sub.nil)))) (by kernel_rfl) (by kernel_rfl) (fun _ _ _ _ _ h => by first | (simp only [Exit.then, bodyPost, defers_put] at h ⊢; exact h) | (simp only [Exit.then, Exit.inBlock, bodyPost, defers_put] at h ⊢; exact h)) ?_
  intro u5 _
  simp only [picks, List.filterMap_cons, List.filterMap_nil, List.getElem?_cons_zero, List.getElem?_cons_succ, Option.map_some]
  refine mixg_value (v := _) (by rfl) (exec_mag rfl) ?_
  try simp only [Act.put, List.setIfInBounds_toArray, List.set_cons_succ, List.set_cons_zero]
  refine mixg_part (by rfl) rfl inferInstance inferInstance ?_
  try simp only [Act.put, List.setIfInBounds_toArray, List.set_cons_succ, List.set_cons_zero]
  refine mixg_value (v := _) (by rfl) (exec_mag rfl) ?_
  try simp only [Act.put, List.setIfInBounds_toArray, List.set_cons_succ, List.set_cons_zero]
  refine mixg_part (by rfl) rfl inferInstance inferInstance ?_
  try simp only [Act.put, List.setIfInBounds_toArray, List.set_cons_succ, List.set_cons_zero]
  refine mixg_enter (f := 29) (args := #[wv a]) (by rfl) (by go_simp) ?_
  refine (HDA.out _).mono ?_
  rintro e w1 ⟨v1, x, rfl, ⟨hx1, hx2, hx3⟩, o1, b1⟩
  obtain ⟨u6, rfl⟩ := u5.go b1
  refine ⟨v1, rfl, KW.weak (h := inferInstance) u6, ?_⟩
  try simp only [Act.put, List.setIfInBounds_toArray, List.set_cons_succ, List.set_cons_zero]
  refine mixg_enter (f := 29) (args := #[wv b]) (by rfl) (by go_simp) ?_
  refine (HDB.out _).mono ?_
  rintro e w2 ⟨v2, y, rfl, ⟨hy1, hy2, hy3⟩, o2, b2⟩
  have R1 := o1.rd.later b2 (Nat.le_refl _)
  have R2 := o2.rd
  obtain ⟨u7, rfl⟩ := u6.go b2
  refine ⟨v2, rfl, KW.weak (h := inferInstance) u7, ?_⟩
  clear o1 o2 b1 b2 HDA HDB
  try simp only [Act.put, List.setIfInBounds_toArray, List.set_cons_succ, List.set_cons_zero]
  refine mixg_then (v := v1) (by rfl) (by go_simp) (KW.weak (h := inferInstance) u7) ?_
  try simp only [Act.put, List.setIfInBounds_toArray, List.set_cons_succ, List.set_cons_zero]
  refine mixg_then (v := v2) (by rfl) (by go_simp) (KW.weak (h := inferInstance) u7) ?_
  try simp only [Act.put, List.setIfInBounds_toArray, List.set_cons_succ, List.set_cons_zero]
  refine mix_nil ?_
  have FL := less_any v1 v2 x y u7.w R1 R2 hx1 hy1 (by omega) (by omega)
  rw [show lessB x y = false by unfold lessB; rw [hx2, hy2]; exact decide_eq_false hab] at FL
  cases s <;> cases t <;> first | exact absurd rfl hst | skip
  all_goals (
    go_wp2_with (first
      | ((with_reducible apply ls_load); exact rfl; infer_instance; infer_instance))
    refine FL.mono ?_
    rintro e w' ⟨rfl, rfl⟩
    clear FL
    go_wp2_with (first
      | ((with_reducible apply ls_load); exact rfl; infer_instance; infer_instance))
    refine (minus_any v1 v2 x y _ R1 R2 hx1 hy1 (Lib.hid (by rw [hx2, hy2]; omega)) (by omega) (by omega)).mono ?_
    rintro e w3 ⟨v3, z, rfl, ⟨hz1, hz2, hz3⟩, o3, b3⟩
    have R3 := o3.rd
    obtain ⟨u8, rfl⟩ := u7.go b3
    have FW := refWide_any v3 z _ R3 hz1 (by omega)
    rw [hz2, hx2, hy2, hL, hB] at FW
    clear o3 b3 R3 hz1 hz2 hz3 hx1 hx2 hx3 hy1 hy2 hy3 R1 R2 hL hB
    generalize a - b = d at *
    unfold nv at HF ⊢
    go_wp2_with (fail)
    refine FW.mono ?_
    rintro e w4 ⟨rfl, b4⟩
    obtain ⟨u9, rfl⟩ := u8.go b4
    clear b4 FW
    go_wp2_with (first
      | ((with_reducible apply ls_alloc); infer_instance; intro _ _)
      | ((with_reducible apply ls_load); exact rfl; infer_instance; infer_instance)
      | ((with_reducible apply ls_store); exact rfl; exact rfl; infer_instance; infer_instance; infer_instance; intro _)
      | ((with_reducible apply ls_I); exact rfl; exact rfl)
      | (go_at_call 7; (with_reducible refine (HF.out _).mono ?_); rintro e w' ⟨rfl, hb'⟩; obtain ⟨_, rfl⟩ := KW.go _ hb'; clear hb'))
    exact bd_cell_tmp Tryd.results11 rfl rfl inferInstance inferInstance ⟨rfl, KW.below _⟩)
theorem radd_any (s t : Bool) (a b : Nat) (ha : Hid (a < M)) (hb : Hid (b < M)) (w : World) : Calls Tryd.prog 11 #[iv s a, iv t b] w (Ret (fv (sg s a + sg t b)) w) := by
  by_cases h : s = t
  · subst h
    by_cases hf : a + b < M
    · exact radd_fit s a b ha hb hf w
    · exact radd_big s a b ha hb hf w
  · by_cases hab : a < b
    · exact radd_lt s t a b ha hb h hab w
    · exact radd_ge s t a b ha hb h hab w
end Go.Proofs.YtmmnekcnaohnbaaDoor.SignW
