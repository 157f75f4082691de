/-
  package sign: contracts over the translation.
-/
import Derived.Test.YtmmnekcnaohnbaaDoorInt
import Derived.Test.YtmmnekcnaohnbaaDoorIntMath
namespace Go.Proofs.YtmmnekcnaohnbaaDoor.SignW
open Go.RowKit
open DigM WideM WideV KM DigW WideW QuotW QuotM DecM FmtW SignM
/-- a number with a sign that may be -/
abbrev nv (z : Int) : Value := iv (ng z) z.natAbs
theorem nv_sg (s : Bool) (n : Nat) : nv (sg s n) = iv (s && !eqB n 0) n := by unfold nv; rw [ng_sg, sg_abs]
set_option maxRecDepth 100000 in
set_option maxHeartbeats 3200000 in
theorem told_any (s : Bool) (n : Nat) (hn : Hid (n < M)) (w : World) : Calls Tryd.prog 27 #[.bool s, wv n] w (Ret (nv (sg s n)) w) := by
  have HZ := Lib.hid (fun w => zero_any n hn.out w)
  rw [nv_sg]
  refine enter fun u => ?_
  go_enter Tryd.func27, Tryd.ntmps27
  go_wp2_with (first
    | ((with_reducible apply list_box); exact rfl; intro _ _)
    | ((with_reducible apply ls_alloc); infer_instance; intro _ _))
  try simp only [Act.put, List.setIfInBounds_toArray, List.set_cons_succ, List.set_cons_zero]
  cases s
  · refine region_mix [(true, 0), (true, 1), (true, 2), (true, 6), (true, 3), (true, 4), (true, 5), (true, 7), (false, 8)] _ (Sub.skip (h := Sub.both (h := Sub.nil))) (by kernel_rfl) (by kernel_rfl) (fun _ _ _ _ _ h => by first | (simp only [Exit.then, bodyPost, defers_put] at h ⊢; exact h) | (simp only [Exit.then, Exit.inBlock, bodyPost, defers_put] at h ⊢; exact h)) ?_
    intro u2 _
    simp only [picks, List.filterMap_cons, List.filterMap_nil, List.getElem?_cons_zero, List.getElem?_cons_succ, Option.map_some]
    refine mixg_value (v := .bool false) (by rfl) (by intro w; go_simp) ?_
    try simp only [Act.put, List.setIfInBounds_toArray, List.set_cons_succ, List.set_cons_zero]
    refine mixg_value (v := .bool false) (by rfl) (by intro w; go_simp) ?_
    try simp only [Act.put, List.setIfInBounds_toArray, List.set_cons_succ, List.set_cons_zero]
    refine mixg_skip ?hsk ?_
    case hsk => rfl
    try simp only [Act.put, List.setIfInBounds_toArray, List.set_cons_succ, List.set_cons_zero]
    refine mixg_part (by rfl) rfl inferInstance inferInstance ?_
    try simp only [Act.put, List.setIfInBounds_toArray, List.set_cons_succ, List.set_cons_zero]
    refine mixg_skip ?hsk ?_
    case hsk => rfl
    try simp only [Act.put, List.setIfInBounds_toArray, List.set_cons_succ, List.set_cons_zero]
    refine mixg_skip ?hsk ?_
    case hsk => rfl
    try simp only [Act.put, List.setIfInBounds_toArray, List.set_cons_succ, List.set_cons_zero]
    refine mixg_value (v := .bool false) (by rfl) (by intro w; go_simp) ?_
    try simp only [Act.put, List.setIfInBounds_toArray, List.set_cons_succ, List.set_cons_zero]
    refine mixg_value (v := iv false n) (by rfl) (exec_I rfl rfl) ?_
    try simp only [Act.put, List.setIfInBounds_toArray, List.set_cons_succ, List.set_cons_zero]
    refine mixg_store (by rfl) rfl rfl inferInstance inferInstance inferInstance inferInstance fun u4 => ?_
    refine mix_nil ?_
    go_wp2_with (fail)
    exact bd_cell Tryd.results27 rfl inferInstance inferInstance ⟨rfl, KW.below _⟩
  · refine region_mix [(true, 0), (true, 1), (true, 2), (true, 6), (false, 3), (true, 4), (true, 5), (true, 7), (false, 8)] _ (Sub.skip (h := Sub.both (h := Sub.nil))) (by kernel_rfl) (by kernel_rfl) (fun _ _ _ _ _ h => by first | (simp only [Exit.then, bodyPost, defers_put] at h ⊢; exact h) | (simp only [Exit.then, Exit.inBlock, bodyPost, defers_put] at h ⊢; exact h)) ?_
    intro u2 _
    simp only [picks, List.filterMap_cons, List.filterMap_nil, List.getElem?_cons_zero, List.getElem?_cons_succ, Option.map_some]
    refine mixg_value (v := .bool true) (by rfl) (by intro w; go_simp) ?_
    try simp only [Act.put, List.setIfInBounds_toArray, List.set_cons_succ, List.set_cons_zero]
    refine mixg_value (v := .bool true) (by rfl) (by intro w; go_simp) ?_
    try simp only [Act.put, List.setIfInBounds_toArray, List.set_cons_succ, List.set_cons_zero]
    refine mixg_part (by rfl) rfl inferInstance inferInstance ?_
    try simp only [Act.put, List.setIfInBounds_toArray, List.set_cons_succ, List.set_cons_zero]
    refine mixg_part (by rfl) rfl inferInstance inferInstance ?_
    try simp only [Act.put, List.setIfInBounds_toArray, List.set_cons_succ, List.set_cons_zero]
    refine mixg_enter (f := 37) (args := #[wv n]) (by rfl) (by go_simp) ?_
    refine (HZ.out _).mono ?_
    rintro e w' ⟨rfl, hb'⟩
    obtain ⟨u3, rfl⟩ := u2.go hb'
    refine ⟨_, rfl, KW.weak (h := inferInstance) u3, ?_⟩
    clear hb'
    try simp only [Act.put, List.setIfInBounds_toArray, List.set_cons_succ, List.set_cons_zero]
    refine mixg_value (v := .bool (!eqB n 0)) (by rfl) (by intro w; go_simp) ?_
    try simp only [Act.put, List.setIfInBounds_toArray, List.set_cons_succ, List.set_cons_zero]
    refine mixg_value (v := .bool (!eqB n 0)) (by rfl) (by intro w; go_simp) ?_
    try simp only [Act.put, List.setIfInBounds_toArray, List.set_cons_succ, List.set_cons_zero]
    refine mixg_value (v := iv (!eqB n 0) n) (by rfl) (exec_I rfl rfl) ?_
    try simp only [Act.put, List.setIfInBounds_toArray, List.set_cons_succ, List.set_cons_zero]
    refine mixg_store (by rfl) rfl rfl inferInstance inferInstance inferInstance inferInstance fun u4 => ?_
    refine mix_nil ?_
    go_wp2_with (fail)
    exact bd_cell Tryd.results27 rfl inferInstance inferInstance ⟨rfl, KW.below _⟩
theorem two_ret (z : Int) (h1 : -9223372036854775808 ≤ z) (h2 : z ≤ 9223372036854775807) (w : World) : Calls Tryd.prog 39 #[.int .i64 z] w (Ret (.tuple #[.bool (ng z), .int .u64 (z.natAbs : Nat)]) w) :=
  (two_any z w h1 h2).mono fun e w' ⟨he, hw⟩ => ⟨he, by rw [← hw]; exact Below.refl _ _⟩
set_option maxRecDepth 100000 in
set_option maxHeartbeats 3200000 in
theorem sof_any (z : Int) (h1 : -9223372036854775808 ≤ z) (h2 : z ≤ 9223372036854775807) (w : World) : Calls Tryd.prog 20 #[.int .i64 z] w (Ret (nv z) w) := by
  have H2 := Lib.hid (fun w => two_ret z h1 h2 w)
  have HO := Lib.hid (fun w => of_any z.natAbs (Lib.hid (by omega)) w)
  unfold nv
  generalize ng z = s at *
  generalize z.natAbs = n at *
  refine enter fun u => ?_
  go_enter Tryd.func20, Tryd.ntmps20
  go_wp2_with (first
    | ((with_reducible apply ls_alloc); infer_instance; intro _ _)
    | ((with_reducible apply ls_store); exact rfl; exact rfl; infer_instance; infer_instance; infer_instance; intro _)
    | ((with_reducible apply ls_I); exact rfl; exact rfl)
    | (go_at_call 39; (with_reducible refine (H2.out _).mono ?_); rintro e w' ⟨rfl, hb'⟩; obtain ⟨_, rfl⟩ := KW.go _ hb'; clear hb')
    | (go_at_call 38; (with_reducible refine (HO.out _).mono ?_); rintro e w' ⟨rfl, hb'⟩; obtain ⟨_, rfl⟩ := KW.go _ hb'; clear hb'))
  exact bd_cell Tryd.results20 rfl inferInstance inferInstance ⟨rfl, KW.below _⟩
set_option maxRecDepth 100000 in
set_option maxHeartbeats 3200000 in
theorem fix_any (s : Bool) (n : Nat) (hn : Hid (n < M)) (w : World) : Calls Tryd.prog 17 #[iv s n] w (Ret (nv (sg s n)) w) := by
  have HT := Lib.hid (fun w => told_any s n hn w)
  refine enter fun u => ?_
  go_enter Tryd.func17, Tryd.ntmps17
  go_wp2_with (first
    | ((with_reducible apply list_box); exact rfl; intro _ _)
    | ((with_reducible apply ls_alloc); infer_instance; intro _ _)
    | ((with_reducible apply ls_load); exact rfl; infer_instance; infer_instance)
    | ((with_reducible apply ls_store); exact rfl; exact rfl; infer_instance; infer_instance; infer_instance; intro _)
    | (go_at_call 27; (with_reducible refine (HT.out _).mono ?_); rintro e w' ⟨rfl, hb'⟩; obtain ⟨_, rfl⟩ := KW.go _ hb'; clear hb'))
  exact bd_cell Tryd.results17 rfl inferInstance inferInstance ⟨rfl, KW.below _⟩
set_option maxRecDepth 100000 in
set_option maxHeartbeats 3200000 in
theorem sless_any (s : Bool) (n : Nat) (hn : Hid (n < M)) (w : World) : Calls Tryd.prog 16 #[iv s n] w (Ret (nv (- sg s n)) w) := by
  have HT := Lib.hid (fun w => told_any (!s) n hn w)
  rw [← sg_not]
  refine enter fun u => ?_
  go_enter Tryd.func16, Tryd.ntmps16
  go_wp2_with (first
    | ((with_reducible apply list_box); exact rfl; intro _ _)
    | ((with_reducible apply ls_alloc); infer_instance; intro _ _)
    | ((with_reducible apply ls_load); exact rfl; infer_instance; infer_instance)
    | ((with_reducible apply ls_store); exact rfl; exact rfl; infer_instance; infer_instance; infer_instance; intro _)
    | (go_at_call 27; (with_reducible refine (HT.out _).mono ?_); rintro e w' ⟨rfl, hb'⟩; obtain ⟨_, rfl⟩ := KW.go _ hb'; clear hb'))
  exact bd_cell Tryd.results16 rfl inferInstance inferInstance ⟨rfl, KW.below _⟩
theorem wsub_some (a b : Nat) (ha : Hid (a < M)) (hb : Hid (b < M)) (h : b ≤ a) (w : World) : Calls Tryd.prog 42 #[wv a, wv b] w (Ret (.tuple #[wv (a - b), .bool true]) w) := by
  have h1 := wsub_any a b ha hb w
  rwa [show subL a b = a - b by unfold subL low; rw [show a + M - b = a - b + M by omega, Nat.add_mod_right, Nat.mod_eq_of_lt (by have := ha.out; omega)], show leB b a = true from decide_eq_true h] at h1
set_option maxRecDepth 100000 in
set_option maxHeartbeats 3200000 in
theorem apart_any (s t : Bool) (a b : Nat) (ha : Hid (a < M)) (hb : Hid (b < M)) (h : s ≠ t) (w : World) : Calls Tryd.prog 25 #[iv s a, iv t b] w (Ret (nv (sg s a + sg t b)) w) := by
  have HC := fun w => wcmp_any a b ha hb w
  by_cases hab : a < b
  · rw [cmpI_lt hab] at HC
    have HC := Lib.hid HC
    have HS := Lib.hid (fun w => wsub_some b a hb ha (by omega) w)
    have HT := Lib.hid (fun w => told_any t (b - a) (Lib.hid (by have := hb.out; omega)) w)
    rw [Int.add_comm, ← sg_apart (Ne.symm h) (by omega : a ≤ b)]
    generalize b - a = d at *
    refine enter fun u => ?_
    go_enter Tryd.func25, Tryd.ntmps25
    go_wp2_with (first
      | ((with_reducible apply list_box); exact rfl; intro _ _)
      | ((with_reducible apply ls_alloc); infer_instance; intro _ _)
      | ((with_reducible apply ls_load); exact rfl; infer_instance; infer_instance)
      | ((with_reducible apply ls_store); exact rfl; exact rfl; infer_instance; infer_instance; infer_instance; intro _)
      | (go_at_call 35; (with_reducible refine (HC.out _).mono ?_); rintro e w' ⟨rfl, hb'⟩; obtain ⟨_, rfl⟩ := KW.go _ hb'; clear hb')
      | (go_at_call 42; (with_reducible refine (HS.out _).mono ?_); rintro e w' ⟨rfl, hb'⟩; obtain ⟨_, rfl⟩ := KW.go _ hb'; clear hb')
      | (go_at_call 27; (with_reducible refine (HT.out _).mono ?_); rintro e w' ⟨rfl, hb'⟩; obtain ⟨_, rfl⟩ := KW.go _ hb'; clear hb'))
    exact bd_cell Tryd.results25 rfl inferInstance inferInstance ⟨rfl, KW.below _⟩
  · have hc : ¬ cmpI a b < 0 := by unfold cmpI; rw [if_neg hab]; split <;> omega
    generalize cmpI a b = c at *
    have HC := Lib.hid HC
    have HS := Lib.hid (fun w => wsub_some a b ha hb (by omega) w)
    have HT := Lib.hid (fun w => told_any s (a - b) (Lib.hid (by have := ha.out; omega)) w)
    rw [← sg_apart h (by omega : b ≤ a)]
    generalize a - b = d at *
    refine enter fun u => ?_
    go_enter Tryd.func25, Tryd.ntmps25
    go_wp2_with (first
      | ((with_reducible apply list_box); exact rfl; intro _ _)
      | ((with_reducible apply ls_alloc); infer_instance; intro _ _)
      | ((with_reducible apply ls_load); exact rfl; infer_instance; infer_instance)
      | ((with_reducible apply ls_store); exact rfl; exact rfl; infer_instance; infer_instance; infer_instance; intro _)
      | (go_at_call 35; (with_reducible refine (HC.out _).mono ?_); rintro e w' ⟨rfl, hb'⟩; obtain ⟨_, rfl⟩ := KW.go _ hb'; clear hb')
      | (go_at_call 42; (with_reducible refine (HS.out _).mono ?_); rintro e w' ⟨rfl, hb'⟩; obtain ⟨_, rfl⟩ := KW.go _ hb'; clear hb')
      | (go_at_call 27; (with_reducible refine (HT.out _).mono ?_); rintro e w' ⟨rfl, hb'⟩; obtain ⟨_, rfl⟩ := KW.go _ hb'; clear hb'))
    exact bd_cell Tryd.results25 rfl inferInstance inferInstance ⟨rfl, KW.below _⟩
end Go.Proofs.YtmmnekcnaohnbaaDoor.SignW
