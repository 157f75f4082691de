/-
  The walk of the law SignSmall.
-/
import Derived.Test.YtmmnekcnaohnbaaDoorSignLaws
namespace Go.Proofs.YtmmnekcnaohnbaaDoor.SignW
open Go.RowKit
open DigM WideM WideV KM DigW WideW QuotW QuotM DecM FmtW SignM
open Go.Lib (decDigits nDigits)
theorem cmpZ_ge {z : Int} : 0 ≤ cmpZ z ↔ 0 ≤ z := by 
  unfold cmpZ
  repeat' split
  all_goals omega
theorem cmpZ_le {z : Int} : cmpZ z ≤ 0 ↔ z ≤ 0 := by 
  unfold cmpZ
  repeat' split
  all_goals omega
theorem smallV_in {z : Int} (h : inI z = true) : smallV z = .tuple #[.int .i64 z, .bool true] := by unfold smallV; rw [h]; rfl
theorem smallV_out {z : Int} (h : inI z = false) : smallV z = .tuple #[.int .i64 0, .bool false] := by unfold smallV; rw [h]; rfl
theorem str_self (s : ByteArray) : (s.toList == s.toList) = true := by simp
set_option maxRecDepth 100000 in
set_option maxHeartbeats 12800000 in
theorem signSmall_in (n : Int) (h1 : -9223372036854775808 ≤ n) (h2 : n ≤ 9223372036854775807) (s : Bool) (a : Nat) (ha : Hid (a < M)) (hi : inI (sg s a) = true) (w : World) (ht : Tab w) : Calls Tryd.prog 5 #[.int .i64 n, iv s a] w (TrueAt5 w) := by
  have HT := Lib.hid ht
  have HW := Lib.hid (fun w (ht : Tab w) => awake5_any w ht)
  have hx : (sg s a).natAbs < M := by rw [sg_abs]; exact ha.out
  have hn : n.natAbs < M := small_M (by omega)
  have HO := fun w => sof_any n h1 h2 w
  have HOn := fun w => rof_any n h1 h2 w
  have HS := fun w => small_nv (Lib.hid hn) w
  rw [smallV_in (decide_eq_true ⟨h1, h2⟩)] at HS
  have HSa := fun w => small_any s a ha w
  have HF := fun w => rfix_any s a ha w
  have HO1 := fun w => rof_any (-9223372036854775808) (by decide) (by decide) w
  have HO2 := fun w => rof_any 9223372036854775807 (by decide) (by decide) w
  have HC1 := fun w => rcmp_nv (x := sg s a) (y := -9223372036854775808) (Lib.hid hx) (Lib.hid (small_M (by decide))) w
  have HC2 := fun w => rcmp_nv (x := sg s a) (y := 9223372036854775807) (Lib.hid hx) (Lib.hid (small_M (by decide))) w
  have HX := Lib.hid (fun w (ht : Tab w) => stext_any s a ha w ht)
  have HY := Lib.hid (fun w => rtext_any s a ha w)
  have hr := of_decide_eq_true hi
  rw [smallV_in hi] at HSa
  have HOx := fun w => rof_any (sg s a) hr.1 hr.2 w
  have hge : (0 : Int) ≤ cmpZ (sg s a - -9223372036854775808) := cmpZ_ge.2 (by omega)
  have hle : cmpZ (sg s a - 9223372036854775807) ≤ 0 := cmpZ_le.2 (by omega)
  clear hr
  obtain ⟨z1, hz1⟩ : ∃ z : Value, z = nv (-9223372036854775808) := ⟨_, rfl⟩
  obtain ⟨z2, hz2⟩ : ∃ z : Value, z = nv 9223372036854775807 := ⟨_, rfl⟩
  rw [← hz1] at HO1 HC1
  rw [← hz2] at HO2 HC2
  clear hz1 hz2 ht hi h1 h2 hx hn
  obtain ⟨S, hS⟩ : ∃ S, S = vs (zdec (sg s a)) := ⟨_, rfl⟩
  unfold vs at HX HY
  obtain ⟨sb, hsb⟩ : ∃ sb : ByteArray, sb = ⟨(zdec (sg s a)).toArray⟩ := ⟨_, rfl⟩
  rw [← hsb] at HX HY
  clear hS S hsb
  unfold nv at *
  generalize cmpZ (sg s a - -9223372036854775808) = c at *
  generalize cmpZ (sg s a - 9223372036854775807) = d at *
  generalize ng n = pn at *
  generalize n.natAbs = mn at *
  generalize sg s a = X at *
  generalize ng X = pX at *
  generalize X.natAbs = mX at *
  replace HO := Lib.hid HO
  replace HOn := Lib.hid HOn
  replace HS := Lib.hid HS
  replace HSa := Lib.hid HSa
  replace HF := Lib.hid HF
  replace HO1 := Lib.hid HO1
  replace HO2 := Lib.hid HO2
  replace HC1 := Lib.hid HC1
  replace HC2 := Lib.hid HC2
  replace HOx := Lib.hid HOx
  refine enter fun u => ?_
  go_enter Tryd.func5, Tryd.ntmps5
  go_wp2_with (first
    | ((with_reducible apply list_box); exact rfl; intro _ _)
    | ((with_reducible apply ls_alloc); infer_instance; intro _ _)
    | ((with_reducible apply ls_load); exact rfl; infer_instance; infer_instance)
    | ((with_reducible apply ls_store); exact rfl; exact rfl; infer_instance; infer_instance; infer_instance; intro _)
    | (go_at_call 20; (with_reducible refine (HO.out _).mono ?_); rintro e w' ⟨rfl, hb'⟩; obtain ⟨_, rfl⟩ := KW.go _ hb'; clear hb')
    | (go_at_call 21; (with_reducible refine (HS.out _).mono ?_); rintro e w' ⟨rfl, hb'⟩; obtain ⟨_, rfl⟩ := KW.go _ hb'; clear hb')
    | (go_at_call 21; (with_reducible refine (HSa.out _).mono ?_); rintro e w' ⟨rfl, hb'⟩; obtain ⟨_, rfl⟩ := KW.go _ hb'; clear hb')
    | (go_at_call 7; (with_reducible refine (HF.out _).mono ?_); rintro e w' ⟨rfl, hb'⟩; obtain ⟨_, rfl⟩ := KW.go _ hb'; clear hb'))
  refine region (by kernel_rfl) (by kernel_rfl) fun _ => ?_
  refine qt_load (by rfl) rfl inferInstance inferInstance ?_
  try simp only [Act.put, List.setIfInBounds_toArray, List.set_cons_succ, List.set_cons_zero]
  refine qt_call (f := 22) (args := #[.int .i64 (-9223372036854775808)]) (by rfl) (by intro w; go_simp) (fun u => HO1.out _) ?_
  try simp only [Act.put, List.setIfInBounds_toArray, List.set_cons_succ, List.set_cons_zero]
  refine qt_call (f := 15) (args := #[iv pX mX, z1]) (by rfl) (by intro w; go_simp) (fun u => HC1.out _) ?_
  try simp only [Act.put, List.setIfInBounds_toArray, List.set_cons_succ, List.set_cons_zero]
  refine qt_load (by rfl) rfl inferInstance inferInstance ?_
  try simp only [Act.put, List.setIfInBounds_toArray, List.set_cons_succ, List.set_cons_zero]
  refine qt_call (f := 22) (args := #[.int .i64 9223372036854775807]) (by rfl) (by intro w; go_simp) (fun u => HO2.out _) ?_
  try simp only [Act.put, List.setIfInBounds_toArray, List.set_cons_succ, List.set_cons_zero]
  refine qt_call (f := 15) (args := #[iv pX mX, z2]) (by rfl) (by intro w; go_simp) (fun u => HC2.out _) ?_
  try simp only [Act.put, List.setIfInBounds_toArray, List.set_cons_succ, List.set_cons_zero]
  refine qt_value (v := .int .i64 c) (by rfl) (by intro w; go_simp) ?_
  try simp only [Act.put, List.setIfInBounds_toArray, List.set_cons_succ, List.set_cons_zero]
  refine qt_value (v := .int .i64 d) (by rfl) (by intro w; go_simp) ?_
  try simp only [Act.put, List.setIfInBounds_toArray, List.set_cons_succ, List.set_cons_zero]
  refine wpQuiet_nil ?_
  rintro _ ⟨u6, rfl⟩
  go_wp2_with (fail)
  refine region (by kernel_rfl) (by kernel_rfl) fun _ => ?_
  refine qt_load (by rfl) rfl inferInstance inferInstance ?_
  try simp only [Act.put, List.setIfInBounds_toArray, List.set_cons_succ, List.set_cons_zero]
  refine qt_value (v := .int .i64 n) (by rfl) (by intro w; go_simp) ?_
  try simp only [Act.put, List.setIfInBounds_toArray, List.set_cons_succ, List.set_cons_zero]
  refine qt_call (f := 22) (args := #[.int .i64 n]) (by rfl) (by intro w; go_simp) (fun u => HOn.out _) ?_
  try simp only [Act.put, List.setIfInBounds_toArray, List.set_cons_succ, List.set_cons_zero]
  refine qt_value (v := .bool false) (by rfl) (by intro w; go_simp) ?_
  try simp only [Act.put, List.setIfInBounds_toArray, List.set_cons_succ, List.set_cons_zero]
  refine qt_value (v := .bool false) (by rfl) (by intro w; go_simp) ?_
  try simp only [Act.put, List.setIfInBounds_toArray, List.set_cons_succ, List.set_cons_zero]
  refine qt_value (v := .bool true) (by rfl) (by intro w; go_simp) ?_
  try simp only [Act.put, List.setIfInBounds_toArray, List.set_cons_succ, List.set_cons_zero]
  refine qt_value (v := .bool false) (by rfl) (by intro w; go_simp) ?_
  try simp only [Act.put, List.setIfInBounds_toArray, List.set_cons_succ, List.set_cons_zero]
  refine qt_value (v := .bool false) (by rfl) (by intro w; go_simp) ?_
  try simp only [Act.put, List.setIfInBounds_toArray, List.set_cons_succ, List.set_cons_zero]
  refine qt_value (v := .bool false) (by rfl) (by intro w; go_simp) ?_
  try simp only [Act.put, List.setIfInBounds_toArray, List.set_cons_succ, List.set_cons_zero]
  refine qt_value (v := .int .i64 n) (by rfl) (by intro w; go_simp) ?_
  try simp only [Act.put, List.setIfInBounds_toArray, List.set_cons_succ, List.set_cons_zero]
  refine qt_value (v := .int .i64 n) (by rfl) (by intro w; go_simp) ?_
  try simp only [Act.put, List.setIfInBounds_toArray, List.set_cons_succ, List.set_cons_zero]
  refine qt_value (v := .bool false) (by rfl) (by intro w; go_simp) ?_
  try simp only [Act.put, List.setIfInBounds_toArray, List.set_cons_succ, List.set_cons_zero]
  refine qt_value (v := .bool false) (by rfl) (by intro w; go_simp) ?_
  try simp only [Act.put, List.setIfInBounds_toArray, List.set_cons_succ, List.set_cons_zero]
  refine qt_value (v := .bool false) (by rfl) (by intro w; go_simp) ?_
  try simp only [Act.put, List.setIfInBounds_toArray, List.set_cons_succ, List.set_cons_zero]
  refine qt_value (v := .bool true) (by rfl) (by intro w; go_simp) ?_
  try simp only [Act.put, List.setIfInBounds_toArray, List.set_cons_succ, List.set_cons_zero]
  refine qt_value (v := .int .i64 c) (by rfl) (by intro w; go_simp) ?_
  try simp only [Act.put, List.setIfInBounds_toArray, List.set_cons_succ, List.set_cons_zero]
  refine qt_value (v := .bool true) (by rfl) (by intro w; go_simp) ?_
  try simp only [Act.put, List.setIfInBounds_toArray, List.set_cons_succ, List.set_cons_zero]
  refine qt_value (v := .bool true) (by rfl) (by intro w; go_simp) ?_
  try simp only [Act.put, List.setIfInBounds_toArray, List.set_cons_succ, List.set_cons_zero]
  refine qt_value (v := .int .i64 d) (by rfl) (by intro w; go_simp) ?_
  try simp only [Act.put, List.setIfInBounds_toArray, List.set_cons_succ, List.set_cons_zero]
  refine qt_value (v := .bool true) (by rfl) (by intro w; go_simp) ?_
  try simp only [Act.put, List.setIfInBounds_toArray, List.set_cons_succ, List.set_cons_zero]
  refine qt_value (v := .bool true) (by rfl) (by intro w; go_simp) ?_
  try simp only [Act.put, List.setIfInBounds_toArray, List.set_cons_succ, List.set_cons_zero]
  refine qt_value (v := .bool false) (by rfl) (by intro w; go_simp) ?_
  try simp only [Act.put, List.setIfInBounds_toArray, List.set_cons_succ, List.set_cons_zero]
  refine qt_value (v := .bool false) (by rfl) (by intro w; go_simp) ?_
  try simp only [Act.put, List.setIfInBounds_toArray, List.set_cons_succ, List.set_cons_zero]
  refine qt_value (v := .bool false) (by rfl) (by intro w; go_simp) ?_
  try simp only [Act.put, List.setIfInBounds_toArray, List.set_cons_succ, List.set_cons_zero]
  refine qt_value (v := .bool true) (by rfl) (by intro w; go_simp) ?_
  try simp only [Act.put, List.setIfInBounds_toArray, List.set_cons_succ, List.set_cons_zero]
  refine qt_value (v := .bool true) (by rfl) (by intro w; go_simp) ?_
  try simp only [Act.put, List.setIfInBounds_toArray, List.set_cons_succ, List.set_cons_zero]
  refine qt_value (v := .int .i64 X) (by rfl) (by intro w; go_simp) ?_
  try simp only [Act.put, List.setIfInBounds_toArray, List.set_cons_succ, List.set_cons_zero]
  refine qt_call (f := 22) (args := #[.int .i64 X]) (by rfl) (by intro w; go_simp) (fun u => HOx.out _) ?_
  try simp only [Act.put, List.setIfInBounds_toArray, List.set_cons_succ, List.set_cons_zero]
  refine qt_load (by rfl) rfl inferInstance inferInstance ?_
  try simp only [Act.put, List.setIfInBounds_toArray, List.set_cons_succ, List.set_cons_zero]
  refine qt_value (v := .bool false) (by rfl) (by intro w; go_simp) ?_
  try simp only [Act.put, List.setIfInBounds_toArray, List.set_cons_succ, List.set_cons_zero]
  refine qt_value (v := .bool false) (by rfl) (by intro w; go_simp) ?_
  try simp only [Act.put, List.setIfInBounds_toArray, List.set_cons_succ, List.set_cons_zero]
  refine qt_value (v := .bool false) (by rfl) (by intro w; go_simp) ?_
  try simp only [Act.put, List.setIfInBounds_toArray, List.set_cons_succ, List.set_cons_zero]
  refine qt_value (v := .bool false) (by rfl) (by intro w; go_simp) ?_
  try simp only [Act.put, List.setIfInBounds_toArray, List.set_cons_succ, List.set_cons_zero]
  refine qt_value (v := .bool true) (by rfl) (by intro w; go_simp) ?_
  try simp only [Act.put, List.setIfInBounds_toArray, List.set_cons_succ, List.set_cons_zero]
  refine qt_value (v := .bool false) (by rfl) (by intro w; go_simp) ?_
  try simp only [Act.put, List.setIfInBounds_toArray, List.set_cons_succ, List.set_cons_zero]
  refine qt_value (v := .bool false) (by rfl) (by intro w; go_simp) ?_
  try simp only [Act.put, List.setIfInBounds_toArray, List.set_cons_succ, List.set_cons_zero]
  refine qt_skip ?hsk ?_
  case hsk => rfl
  try simp only [Act.put, List.setIfInBounds_toArray, List.set_cons_succ, List.set_cons_zero]
  refine qt_skip ?hsk ?_
  case hsk => rfl
  try simp only [Act.put, List.setIfInBounds_toArray, List.set_cons_succ, List.set_cons_zero]
  refine qt_value (v := .bool false) (by rfl) (by intro w; go_simp) ?_
  try simp only [Act.put, List.setIfInBounds_toArray, List.set_cons_succ, List.set_cons_zero]
  refine qt_value (v := .bool false) (by rfl) (by intro w; go_simp) ?_
  try simp only [Act.put, List.setIfInBounds_toArray, List.set_cons_succ, List.set_cons_zero]
  refine wpQuiet_nil ?_
  rintro _ ⟨u7, rfl⟩
  go_wp2_with (fail)
  refine region (by kernel_rfl) (by kernel_rfl) fun _ => ?_
  refine qt_load (by rfl) rfl inferInstance inferInstance ?_
  try simp only [Act.put, List.setIfInBounds_toArray, List.set_cons_succ, List.set_cons_zero]
  refine qt_call (f := 23) (args := #[iv s a]) (by rfl) (by intro w; go_simp) (fun u => HX.out _ (HT.out.later (KW.below _) (Nat.le_refl _))) ?_
  try simp only [Act.put, List.setIfInBounds_toArray, List.set_cons_succ, List.set_cons_zero]
  refine qt_load (by rfl) rfl inferInstance inferInstance ?_
  try simp only [Act.put, List.setIfInBounds_toArray, List.set_cons_succ, List.set_cons_zero]
  refine qt_call (f := 24) (args := #[iv s a]) (by rfl) (by intro w; go_simp) (fun u => HY.out _) ?_
  try simp only [Act.put, List.setIfInBounds_toArray, List.set_cons_succ, List.set_cons_zero]
  refine qt_value (v := .bool true) (by rfl) (by intro w; go_simp) ?_
  try simp only [Act.put, List.setIfInBounds_toArray, List.set_cons_succ, List.set_cons_zero]
  refine qt_value (v := .bool true) (by rfl) (by intro w; go_simp) ?_
  try simp only [Act.put, List.setIfInBounds_toArray, List.set_cons_succ, List.set_cons_zero]
  refine qt_call (f := 18) (args := #[]) (by rfl) (by intro w; go_simp) (fun u => HW.out _ (HT.out.later (KW.below _) (Nat.le_refl _))) ?_
  try simp only [Act.put, List.setIfInBounds_toArray, List.set_cons_succ, List.set_cons_zero]
  refine qt_value (v := .bool true) (by rfl) (by intro w; go_simp) ?_
  try simp only [Act.put, List.setIfInBounds_toArray, List.set_cons_succ, List.set_cons_zero]
  refine qt_value (v := .bool true) (by rfl) (by intro w; go_simp) ?_
  try simp only [Act.put, List.setIfInBounds_toArray, List.set_cons_succ, List.set_cons_zero]
  refine wpQuiet_nil ?_
  rintro _ ⟨u8, rfl⟩
  go_wp2_with (fail)
  go_ret
  exact ⟨rfl, KW.below _⟩
set_option maxRecDepth 100000 in
set_option maxHeartbeats 12800000 in
theorem signSmall_low (n : Int) (h1 : -9223372036854775808 ≤ n) (h2 : n ≤ 9223372036854775807) (s : Bool) (a : Nat) (ha : Hid (a < M)) (hi : sg s a < -9223372036854775808) (w : World) (ht : Tab w) : Calls Tryd.prog 5 #[.int .i64 n, iv s a] w (TrueAt5 w) := by
  have HT := Lib.hid ht
  have HW := Lib.hid (fun w (ht : Tab w) => awake5_any w ht)
  have hx : (sg s a).natAbs < M := by rw [sg_abs]; exact ha.out
  have hn : n.natAbs < M := small_M (by omega)
  have HO := fun w => sof_any n h1 h2 w
  have HOn := fun w => rof_any n h1 h2 w
  have HS := fun w => small_nv (Lib.hid hn) w
  rw [smallV_in (decide_eq_true ⟨h1, h2⟩)] at HS
  have HSa := fun w => small_any s a ha w
  have HF := fun w => rfix_any s a ha w
  have HO1 := fun w => rof_any (-9223372036854775808) (by decide) (by decide) w
  have HO2 := fun w => rof_any 9223372036854775807 (by decide) (by decide) w
  have HC1 := fun w => rcmp_nv (x := sg s a) (y := -9223372036854775808) (Lib.hid hx) (Lib.hid (small_M (by decide))) w
  have HC2 := fun w => rcmp_nv (x := sg s a) (y := 9223372036854775807) (Lib.hid hx) (Lib.hid (small_M (by decide))) w
  have HX := Lib.hid (fun w (ht : Tab w) => stext_any s a ha w ht)
  have HY := Lib.hid (fun w => rtext_any s a ha w)
  rw [smallV_out (decide_eq_false (by omega))] at HSa
  have hge : ¬ (0 : Int) ≤ cmpZ (sg s a - -9223372036854775808) := fun h => by have := cmpZ_ge.1 h; omega
  obtain ⟨z1, hz1⟩ : ∃ z : Value, z = nv (-9223372036854775808) := ⟨_, rfl⟩
  obtain ⟨z2, hz2⟩ : ∃ z : Value, z = nv 9223372036854775807 := ⟨_, rfl⟩
  rw [← hz1] at HO1 HC1
  rw [← hz2] at HO2 HC2
  clear hz1 hz2 ht hi h1 h2 hx hn
  obtain ⟨S, hS⟩ : ∃ S, S = vs (zdec (sg s a)) := ⟨_, rfl⟩
  unfold vs at HX HY
  obtain ⟨sb, hsb⟩ : ∃ sb : ByteArray, sb = ⟨(zdec (sg s a)).toArray⟩ := ⟨_, rfl⟩
  rw [← hsb] at HX HY
  clear hS S hsb
  unfold nv at *
  generalize cmpZ (sg s a - -9223372036854775808) = c at *
  generalize cmpZ (sg s a - 9223372036854775807) = d at *
  generalize ng n = pn at *
  generalize n.natAbs = mn at *
  generalize sg s a = X at *
  generalize ng X = pX at *
  generalize X.natAbs = mX at *
  replace HO := Lib.hid HO
  replace HOn := Lib.hid HOn
  replace HS := Lib.hid HS
  replace HSa := Lib.hid HSa
  replace HF := Lib.hid HF
  replace HO1 := Lib.hid HO1
  replace HO2 := Lib.hid HO2
  replace HC1 := Lib.hid HC1
  replace HC2 := Lib.hid HC2
  refine enter fun u => ?_
  go_enter Tryd.func5, Tryd.ntmps5
  go_wp2_with (first
    | ((with_reducible apply list_box); exact rfl; intro _ _)
    | ((with_reducible apply ls_alloc); infer_instance; intro _ _)
    | ((with_reducible apply ls_load); exact rfl; infer_instance; infer_instance)
    | ((with_reducible apply ls_store); exact rfl; exact rfl; infer_instance; infer_instance; infer_instance; intro _)
    | (go_at_call 20; (with_reducible refine (HO.out _).mono ?_); rintro e w' ⟨rfl, hb'⟩; obtain ⟨_, rfl⟩ := KW.go _ hb'; clear hb')
    | (go_at_call 21; (with_reducible refine (HS.out _).mono ?_); rintro e w' ⟨rfl, hb'⟩; obtain ⟨_, rfl⟩ := KW.go _ hb'; clear hb')
    | (go_at_call 21; (with_reducible refine (HSa.out _).mono ?_); rintro e w' ⟨rfl, hb'⟩; obtain ⟨_, rfl⟩ := KW.go _ hb'; clear hb')
    | (go_at_call 7; (with_reducible refine (HF.out _).mono ?_); rintro e w' ⟨rfl, hb'⟩; obtain ⟨_, rfl⟩ := KW.go _ hb'; clear hb'))
  refine region (by kernel_rfl) (by kernel_rfl) fun _ => ?_
  refine qt_load (by rfl) rfl inferInstance inferInstance ?_
  try simp only [Act.put, List.setIfInBounds_toArray, List.set_cons_succ, List.set_cons_zero]
  refine qt_call (f := 22) (args := #[.int .i64 (-9223372036854775808)]) (by rfl) (by intro w; go_simp) (fun u => HO1.out _) ?_
  try simp only [Act.put, List.setIfInBounds_toArray, List.set_cons_succ, List.set_cons_zero]
  refine qt_call (f := 15) (args := #[iv pX mX, z1]) (by rfl) (by intro w; go_simp) (fun u => HC1.out _) ?_
  try simp only [Act.put, List.setIfInBounds_toArray, List.set_cons_succ, List.set_cons_zero]
  refine qt_load (by rfl) rfl inferInstance inferInstance ?_
  try simp only [Act.put, List.setIfInBounds_toArray, List.set_cons_succ, List.set_cons_zero]
  refine qt_call (f := 22) (args := #[.int .i64 9223372036854775807]) (by rfl) (by intro w; go_simp) (fun u => HO2.out _) ?_
  try simp only [Act.put, List.setIfInBounds_toArray, List.set_cons_succ, List.set_cons_zero]
  refine qt_call (f := 15) (args := #[iv pX mX, z2]) (by rfl) (by intro w; go_simp) (fun u => HC2.out _) ?_
  try simp only [Act.put, List.setIfInBounds_toArray, List.set_cons_succ, List.set_cons_zero]
  refine qt_value (v := .int .i64 c) (by rfl) (by intro w; go_simp) ?_
  try simp only [Act.put, List.setIfInBounds_toArray, List.set_cons_succ, List.set_cons_zero]
  refine qt_value (v := .int .i64 d) (by rfl) (by intro w; go_simp) ?_
  try simp only [Act.put, List.setIfInBounds_toArray, List.set_cons_succ, List.set_cons_zero]
  refine wpQuiet_nil ?_
  rintro _ ⟨u6, rfl⟩
  go_wp2_with (fail)
  refine region (by kernel_rfl) (by kernel_rfl) fun _ => ?_
  refine qt_load (by rfl) rfl inferInstance inferInstance ?_
  try simp only [Act.put, List.setIfInBounds_toArray, List.set_cons_succ, List.set_cons_zero]
  refine qt_value (v := .int .i64 n) (by rfl) (by intro w; go_simp) ?_
  try simp only [Act.put, List.setIfInBounds_toArray, List.set_cons_succ, List.set_cons_zero]
  refine qt_call (f := 22) (args := #[.int .i64 n]) (by rfl) (by intro w; go_simp) (fun u => HOn.out _) ?_
  try simp only [Act.put, List.setIfInBounds_toArray, List.set_cons_succ, List.set_cons_zero]
  refine qt_value (v := .bool false) (by rfl) (by intro w; go_simp) ?_
  try simp only [Act.put, List.setIfInBounds_toArray, List.set_cons_succ, List.set_cons_zero]
  refine qt_value (v := .bool false) (by rfl) (by intro w; go_simp) ?_
  try simp only [Act.put, List.setIfInBounds_toArray, List.set_cons_succ, List.set_cons_zero]
  refine qt_value (v := .bool true) (by rfl) (by intro w; go_simp) ?_
  try simp only [Act.put, List.setIfInBounds_toArray, List.set_cons_succ, List.set_cons_zero]
  refine qt_value (v := .bool false) (by rfl) (by intro w; go_simp) ?_
  try simp only [Act.put, List.setIfInBounds_toArray, List.set_cons_succ, List.set_cons_zero]
  refine qt_value (v := .bool false) (by rfl) (by intro w; go_simp) ?_
  try simp only [Act.put, List.setIfInBounds_toArray, List.set_cons_succ, List.set_cons_zero]
  refine qt_value (v := .bool false) (by rfl) (by intro w; go_simp) ?_
  try simp only [Act.put, List.setIfInBounds_toArray, List.set_cons_succ, List.set_cons_zero]
  refine qt_value (v := .int .i64 n) (by rfl) (by intro w; go_simp) ?_
  try simp only [Act.put, List.setIfInBounds_toArray, List.set_cons_succ, List.set_cons_zero]
  refine qt_value (v := .int .i64 n) (by rfl) (by intro w; go_simp) ?_
  try simp only [Act.put, List.setIfInBounds_toArray, List.set_cons_succ, List.set_cons_zero]
  refine qt_value (v := .bool false) (by rfl) (by intro w; go_simp) ?_
  try simp only [Act.put, List.setIfInBounds_toArray, List.set_cons_succ, List.set_cons_zero]
  refine qt_value (v := .bool false) (by rfl) (by intro w; go_simp) ?_
  try simp only [Act.put, List.setIfInBounds_toArray, List.set_cons_succ, List.set_cons_zero]
  refine qt_value (v := .bool false) (by rfl) (by intro w; go_simp) ?_
  try simp only [Act.put, List.setIfInBounds_toArray, List.set_cons_succ, List.set_cons_zero]
  refine qt_value (v := .bool false) (by rfl) (by intro w; go_simp) ?_
  try simp only [Act.put, List.setIfInBounds_toArray, List.set_cons_succ, List.set_cons_zero]
  refine qt_value (v := .int .i64 c) (by rfl) (by intro w; go_simp) ?_
  try simp only [Act.put, List.setIfInBounds_toArray, List.set_cons_succ, List.set_cons_zero]
  refine qt_value (v := .bool false) (by rfl) (by intro w; go_simp) ?_
  try simp only [Act.put, List.setIfInBounds_toArray, List.set_cons_succ, List.set_cons_zero]
  refine qt_value (v := .bool false) (by rfl) (by intro w; go_simp) ?_
  try simp only [Act.put, List.setIfInBounds_toArray, List.set_cons_succ, List.set_cons_zero]
  refine qt_skip ?hsk ?_
  case hsk => rfl
  try simp only [Act.put, List.setIfInBounds_toArray, List.set_cons_succ, List.set_cons_zero]
  refine qt_skip ?hsk ?_
  case hsk => rfl
  try simp only [Act.put, List.setIfInBounds_toArray, List.set_cons_succ, List.set_cons_zero]
  refine qt_value (v := .bool false) (by rfl) (by intro w; go_simp) ?_
  try simp only [Act.put, List.setIfInBounds_toArray, List.set_cons_succ, List.set_cons_zero]
  refine qt_value (v := .bool false) (by rfl) (by intro w; go_simp) ?_
  try simp only [Act.put, List.setIfInBounds_toArray, List.set_cons_succ, List.set_cons_zero]
  refine qt_value (v := .bool false) (by rfl) (by intro w; go_simp) ?_
  try simp only [Act.put, List.setIfInBounds_toArray, List.set_cons_succ, List.set_cons_zero]
  refine qt_value (v := .bool false) (by rfl) (by intro w; go_simp) ?_
  try simp only [Act.put, List.setIfInBounds_toArray, List.set_cons_succ, List.set_cons_zero]
  refine qt_value (v := .bool false) (by rfl) (by intro w; go_simp) ?_
  try simp only [Act.put, List.setIfInBounds_toArray, List.set_cons_succ, List.set_cons_zero]
  refine qt_value (v := .bool false) (by rfl) (by intro w; go_simp) ?_
  try simp only [Act.put, List.setIfInBounds_toArray, List.set_cons_succ, List.set_cons_zero]
  refine qt_skip ?hsk ?_
  case hsk => rfl
  try simp only [Act.put, List.setIfInBounds_toArray, List.set_cons_succ, List.set_cons_zero]
  refine qt_skip ?hsk ?_
  case hsk => rfl
  try simp only [Act.put, List.setIfInBounds_toArray, List.set_cons_succ, List.set_cons_zero]
  refine qt_skip ?hsk ?_
  case hsk => rfl
  try simp only [Act.put, List.setIfInBounds_toArray, List.set_cons_succ, List.set_cons_zero]
  refine qt_skip ?hsk ?_
  case hsk => rfl
  try simp only [Act.put, List.setIfInBounds_toArray, List.set_cons_succ, List.set_cons_zero]
  refine qt_value (v := .bool false) (by rfl) (by intro w; go_simp) ?_
  try simp only [Act.put, List.setIfInBounds_toArray, List.set_cons_succ, List.set_cons_zero]
  refine qt_value (v := .bool false) (by rfl) (by intro w; go_simp) ?_
  try simp only [Act.put, List.setIfInBounds_toArray, List.set_cons_succ, List.set_cons_zero]
  refine qt_value (v := .bool false) (by rfl) (by intro w; go_simp) ?_
  try simp only [Act.put, List.setIfInBounds_toArray, List.set_cons_succ, List.set_cons_zero]
  refine qt_value (v := .bool false) (by rfl) (by intro w; go_simp) ?_
  try simp only [Act.put, List.setIfInBounds_toArray, List.set_cons_succ, List.set_cons_zero]
  refine qt_value (v := .bool true) (by rfl) (by intro w; go_simp) ?_
  try simp only [Act.put, List.setIfInBounds_toArray, List.set_cons_succ, List.set_cons_zero]
  refine qt_value (v := .bool true) (by rfl) (by intro w; go_simp) ?_
  try simp only [Act.put, List.setIfInBounds_toArray, List.set_cons_succ, List.set_cons_zero]
  refine qt_value (v := .int .i64 0) (by rfl) (by intro w; go_simp) ?_
  try simp only [Act.put, List.setIfInBounds_toArray, List.set_cons_succ, List.set_cons_zero]
  refine qt_value (v := .bool false) (by rfl) (by intro w; go_simp) ?_
  try simp only [Act.put, List.setIfInBounds_toArray, List.set_cons_succ, List.set_cons_zero]
  refine qt_value (v := .bool false) (by rfl) (by intro w; go_simp) ?_
  try simp only [Act.put, List.setIfInBounds_toArray, List.set_cons_succ, List.set_cons_zero]
  refine qt_value (v := .bool false) (by rfl) (by intro w; go_simp) ?_
  try simp only [Act.put, List.setIfInBounds_toArray, List.set_cons_succ, List.set_cons_zero]
  refine wpQuiet_nil ?_
  rintro _ ⟨u7, rfl⟩
  go_wp2_with (fail)
  refine region (by kernel_rfl) (by kernel_rfl) fun _ => ?_
  refine qt_load (by rfl) rfl inferInstance inferInstance ?_
  try simp only [Act.put, List.setIfInBounds_toArray, List.set_cons_succ, List.set_cons_zero]
  refine qt_call (f := 23) (args := #[iv s a]) (by rfl) (by intro w; go_simp) (fun u => HX.out _ (HT.out.later (KW.below _) (Nat.le_refl _))) ?_
  try simp only [Act.put, List.setIfInBounds_toArray, List.set_cons_succ, List.set_cons_zero]
  refine qt_load (by rfl) rfl inferInstance inferInstance ?_
  try simp only [Act.put, List.setIfInBounds_toArray, List.set_cons_succ, List.set_cons_zero]
  refine qt_call (f := 24) (args := #[iv s a]) (by rfl) (by intro w; go_simp) (fun u => HY.out _) ?_
  try simp only [Act.put, List.setIfInBounds_toArray, List.set_cons_succ, List.set_cons_zero]
  refine qt_value (v := .bool true) (by rfl) (by intro w; go_simp) ?_
  try simp only [Act.put, List.setIfInBounds_toArray, List.set_cons_succ, List.set_cons_zero]
  refine qt_value (v := .bool true) (by rfl) (by intro w; go_simp) ?_
  try simp only [Act.put, List.setIfInBounds_toArray, List.set_cons_succ, List.set_cons_zero]
  refine qt_call (f := 18) (args := #[]) (by rfl) (by intro w; go_simp) (fun u => HW.out _ (HT.out.later (KW.below _) (Nat.le_refl _))) ?_
  try simp only [Act.put, List.setIfInBounds_toArray, List.set_cons_succ, List.set_cons_zero]
  refine qt_value (v := .bool true) (by rfl) (by intro w; go_simp) ?_
  try simp only [Act.put, List.setIfInBounds_toArray, List.set_cons_succ, List.set_cons_zero]
  refine qt_value (v := .bool true) (by rfl) (by intro w; go_simp) ?_
  try simp only [Act.put, List.setIfInBounds_toArray, List.set_cons_succ, List.set_cons_zero]
  refine wpQuiet_nil ?_
  rintro _ ⟨u8, rfl⟩
  go_wp2_with (fail)
  go_ret
  exact ⟨rfl, KW.below _⟩
set_option maxRecDepth 100000 in
set_option maxHeartbeats 12800000 in
theorem signSmall_high (n : Int) (h1 : -9223372036854775808 ≤ n) (h2 : n ≤ 9223372036854775807) (s : Bool) (a : Nat) (ha : Hid (a < M)) (hi : 9223372036854775807 < sg s a) (w : World) (ht : Tab w) : Calls Tryd.prog 5 #[.int .i64 n, iv s a] w (TrueAt5 w) := by
  have HT := Lib.hid ht
  have HW := Lib.hid (fun w (ht : Tab w) => awake5_any w ht)
  have hx : (sg s a).natAbs < M := by rw [sg_abs]; exact ha.out
  have hn : n.natAbs < M := small_M (by omega)
  have HO := fun w => sof_any n h1 h2 w
  have HOn := fun w => rof_any n h1 h2 w
  have HS := fun w => small_nv (Lib.hid hn) w
  rw [smallV_in (decide_eq_true ⟨h1, h2⟩)] at HS
  have HSa := fun w => small_any s a ha w
  have HF := fun w => rfix_any s a ha w
  have HO1 := fun w => rof_any (-9223372036854775808) (by decide) (by decide) w
  have HO2 := fun w => rof_any 9223372036854775807 (by decide) (by decide) w
  have HC1 := fun w => rcmp_nv (x := sg s a) (y := -9223372036854775808) (Lib.hid hx) (Lib.hid (small_M (by decide))) w
  have HC2 := fun w => rcmp_nv (x := sg s a) (y := 9223372036854775807) (Lib.hid hx) (Lib.hid (small_M (by decide))) w
  have HX := Lib.hid (fun w (ht : Tab w) => stext_any s a ha w ht)
  have HY := Lib.hid (fun w => rtext_any s a ha w)
  rw [smallV_out (decide_eq_false (by omega))] at HSa
  have hge : (0 : Int) ≤ cmpZ (sg s a - -9223372036854775808) := cmpZ_ge.2 (by omega)
  have hle : ¬ cmpZ (sg s a - 9223372036854775807) ≤ 0 := fun h => by have := cmpZ_le.1 h; omega
  obtain ⟨z1, hz1⟩ : ∃ z : Value, z = nv (-9223372036854775808) := ⟨_, rfl⟩
  obtain ⟨z2, hz2⟩ : ∃ z : Value, z = nv 9223372036854775807 := ⟨_, rfl⟩
  rw [← hz1] at HO1 HC1
  rw [← hz2] at HO2 HC2
  clear hz1 hz2 ht hi h1 h2 hx hn
  obtain ⟨S, hS⟩ : ∃ S, S = vs (zdec (sg s a)) := ⟨_, rfl⟩
  unfold vs at HX HY
  obtain ⟨sb, hsb⟩ : ∃ sb : ByteArray, sb = ⟨(zdec (sg s a)).toArray⟩ := ⟨_, rfl⟩
  rw [← hsb] at HX HY
  clear hS S hsb
  unfold nv at *
  generalize cmpZ (sg s a - -9223372036854775808) = c at *
  generalize cmpZ (sg s a - 9223372036854775807) = d at *
  generalize ng n = pn at *
  generalize n.natAbs = mn at *
  generalize sg s a = X at *
  generalize ng X = pX at *
  generalize X.natAbs = mX at *
  replace HO := Lib.hid HO
  replace HOn := Lib.hid HOn
  replace HS := Lib.hid HS
  replace HSa := Lib.hid HSa
  replace HF := Lib.hid HF
  replace HO1 := Lib.hid HO1
  replace HO2 := Lib.hid HO2
  replace HC1 := Lib.hid HC1
  replace HC2 := Lib.hid HC2
  refine enter fun u => ?_
  go_enter Tryd.func5, Tryd.ntmps5
  go_wp2_with (first
    | ((with_reducible apply list_box); exact rfl; intro _ _)
    | ((with_reducible apply ls_alloc); infer_instance; intro _ _)
    | ((with_reducible apply ls_load); exact rfl; infer_instance; infer_instance)
    | ((with_reducible apply ls_store); exact rfl; exact rfl; infer_instance; infer_instance; infer_instance; intro _)
    | (go_at_call 20; (with_reducible refine (HO.out _).mono ?_); rintro e w' ⟨rfl, hb'⟩; obtain ⟨_, rfl⟩ := KW.go _ hb'; clear hb')
    | (go_at_call 21; (with_reducible refine (HS.out _).mono ?_); rintro e w' ⟨rfl, hb'⟩; obtain ⟨_, rfl⟩ := KW.go _ hb'; clear hb')
    | (go_at_call 21; (with_reducible refine (HSa.out _).mono ?_); rintro e w' ⟨rfl, hb'⟩; obtain ⟨_, rfl⟩ := KW.go _ hb'; clear hb')
    | (go_at_call 7; (with_reducible refine (HF.out _).mono ?_); rintro e w' ⟨rfl, hb'⟩; obtain ⟨_, rfl⟩ := KW.go _ hb'; clear hb'))
  refine region (by kernel_rfl) (by kernel_rfl) fun _ => ?_
  refine qt_load (by rfl) rfl inferInstance inferInstance ?_
  try simp only [Act.put, List.setIfInBounds_toArray, List.set_cons_succ, List.set_cons_zero]
  refine qt_call (f := 22) (args := #[.int .i64 (-9223372036854775808)]) (by rfl) (by intro w; go_simp) (fun u => HO1.out _) ?_
  try simp only [Act.put, List.setIfInBounds_toArray, List.set_cons_succ, List.set_cons_zero]
  refine qt_call (f := 15) (args := #[iv pX mX, z1]) (by rfl) (by intro w; go_simp) (fun u => HC1.out _) ?_
  try simp only [Act.put, List.setIfInBounds_toArray, List.set_cons_succ, List.set_cons_zero]
  refine qt_load (by rfl) rfl inferInstance inferInstance ?_
  try simp only [Act.put, List.setIfInBounds_toArray, List.set_cons_succ, List.set_cons_zero]
  refine qt_call (f := 22) (args := #[.int .i64 9223372036854775807]) (by rfl) (by intro w; go_simp) (fun u => HO2.out _) ?_
  try simp only [Act.put, List.setIfInBounds_toArray, List.set_cons_succ, List.set_cons_zero]
  refine qt_call (f := 15) (args := #[iv pX mX, z2]) (by rfl) (by intro w; go_simp) (fun u => HC2.out _) ?_
  try simp only [Act.put, List.setIfInBounds_toArray, List.set_cons_succ, List.set_cons_zero]
  refine qt_value (v := .int .i64 c) (by rfl) (by intro w; go_simp) ?_
  try simp only [Act.put, List.setIfInBounds_toArray, List.set_cons_succ, List.set_cons_zero]
  refine qt_value (v := .int .i64 d) (by rfl) (by intro w; go_simp) ?_
  try simp only [Act.put, List.setIfInBounds_toArray, List.set_cons_succ, List.set_cons_zero]
  refine wpQuiet_nil ?_
  rintro _ ⟨u6, rfl⟩
  go_wp2_with (fail)
  refine region (by kernel_rfl) (by kernel_rfl) fun _ => ?_
  refine qt_load (by rfl) rfl inferInstance inferInstance ?_
  try simp only [Act.put, List.setIfInBounds_toArray, List.set_cons_succ, List.set_cons_zero]
  refine qt_value (v := .int .i64 n) (by rfl) (by intro w; go_simp) ?_
  try simp only [Act.put, List.setIfInBounds_toArray, List.set_cons_succ, List.set_cons_zero]
  refine qt_call (f := 22) (args := #[.int .i64 n]) (by rfl) (by intro w; go_simp) (fun u => HOn.out _) ?_
  try simp only [Act.put, List.setIfInBounds_toArray, List.set_cons_succ, List.set_cons_zero]
  refine qt_value (v := .bool false) (by rfl) (by intro w; go_simp) ?_
  try simp only [Act.put, List.setIfInBounds_toArray, List.set_cons_succ, List.set_cons_zero]
  refine qt_value (v := .bool false) (by rfl) (by intro w; go_simp) ?_
  try simp only [Act.put, List.setIfInBounds_toArray, List.set_cons_succ, List.set_cons_zero]
  refine qt_value (v := .bool true) (by rfl) (by intro w; go_simp) ?_
  try simp only [Act.put, List.setIfInBounds_toArray, List.set_cons_succ, List.set_cons_zero]
  refine qt_value (v := .bool false) (by rfl) (by intro w; go_simp) ?_
  try simp only [Act.put, List.setIfInBounds_toArray, List.set_cons_succ, List.set_cons_zero]
  refine qt_value (v := .bool false) (by rfl) (by intro w; go_simp) ?_
  try simp only [Act.put, List.setIfInBounds_toArray, List.set_cons_succ, List.set_cons_zero]
  refine qt_value (v := .bool false) (by rfl) (by intro w; go_simp) ?_
  try simp only [Act.put, List.setIfInBounds_toArray, List.set_cons_succ, List.set_cons_zero]
  refine qt_value (v := .int .i64 n) (by rfl) (by intro w; go_simp) ?_
  try simp only [Act.put, List.setIfInBounds_toArray, List.set_cons_succ, List.set_cons_zero]
  refine qt_value (v := .int .i64 n) (by rfl) (by intro w; go_simp) ?_
  try simp only [Act.put, List.setIfInBounds_toArray, List.set_cons_succ, List.set_cons_zero]
  refine qt_value (v := .bool false) (by rfl) (by intro w; go_simp) ?_
  try simp only [Act.put, List.setIfInBounds_toArray, List.set_cons_succ, List.set_cons_zero]
  refine qt_value (v := .bool false) (by rfl) (by intro w; go_simp) ?_
  try simp only [Act.put, List.setIfInBounds_toArray, List.set_cons_succ, List.set_cons_zero]
  refine qt_value (v := .bool false) (by rfl) (by intro w; go_simp) ?_
  try simp only [Act.put, List.setIfInBounds_toArray, List.set_cons_succ, List.set_cons_zero]
  refine qt_value (v := .bool false) (by rfl) (by intro w; go_simp) ?_
  try simp only [Act.put, List.setIfInBounds_toArray, List.set_cons_succ, List.set_cons_zero]
  refine qt_value (v := .int .i64 c) (by rfl) (by intro w; go_simp) ?_
  try simp only [Act.put, List.setIfInBounds_toArray, List.set_cons_succ, List.set_cons_zero]
  refine qt_value (v := .bool true) (by rfl) (by intro w; go_simp) ?_
  try simp only [Act.put, List.setIfInBounds_toArray, List.set_cons_succ, List.set_cons_zero]
  refine qt_value (v := .bool true) (by rfl) (by intro w; go_simp) ?_
  try simp only [Act.put, List.setIfInBounds_toArray, List.set_cons_succ, List.set_cons_zero]
  refine qt_value (v := .int .i64 d) (by rfl) (by intro w; go_simp) ?_
  try simp only [Act.put, List.setIfInBounds_toArray, List.set_cons_succ, List.set_cons_zero]
  refine qt_value (v := .bool false) (by rfl) (by intro w; go_simp) ?_
  try simp only [Act.put, List.setIfInBounds_toArray, List.set_cons_succ, List.set_cons_zero]
  refine qt_value (v := .bool false) (by rfl) (by intro w; go_simp) ?_
  try simp only [Act.put, List.setIfInBounds_toArray, List.set_cons_succ, List.set_cons_zero]
  refine qt_value (v := .bool false) (by rfl) (by intro w; go_simp) ?_
  try simp only [Act.put, List.setIfInBounds_toArray, List.set_cons_succ, List.set_cons_zero]
  refine qt_value (v := .bool false) (by rfl) (by intro w; go_simp) ?_
  try simp only [Act.put, List.setIfInBounds_toArray, List.set_cons_succ, List.set_cons_zero]
  refine qt_value (v := .bool false) (by rfl) (by intro w; go_simp) ?_
  try simp only [Act.put, List.setIfInBounds_toArray, List.set_cons_succ, List.set_cons_zero]
  refine qt_value (v := .bool false) (by rfl) (by intro w; go_simp) ?_
  try simp only [Act.put, List.setIfInBounds_toArray, List.set_cons_succ, List.set_cons_zero]
  refine qt_value (v := .bool false) (by rfl) (by intro w; go_simp) ?_
  try simp only [Act.put, List.setIfInBounds_toArray, List.set_cons_succ, List.set_cons_zero]
  refine qt_skip ?hsk ?_
  case hsk => rfl
  try simp only [Act.put, List.setIfInBounds_toArray, List.set_cons_succ, List.set_cons_zero]
  refine qt_skip ?hsk ?_
  case hsk => rfl
  try simp only [Act.put, List.setIfInBounds_toArray, List.set_cons_succ, List.set_cons_zero]
  refine qt_skip ?hsk ?_
  case hsk => rfl
  try simp only [Act.put, List.setIfInBounds_toArray, List.set_cons_succ, List.set_cons_zero]
  refine qt_skip ?hsk ?_
  case hsk => rfl
  try simp only [Act.put, List.setIfInBounds_toArray, List.set_cons_succ, List.set_cons_zero]
  refine qt_value (v := .bool false) (by rfl) (by intro w; go_simp) ?_
  try simp only [Act.put, List.setIfInBounds_toArray, List.set_cons_succ, List.set_cons_zero]
  refine qt_value (v := .bool false) (by rfl) (by intro w; go_simp) ?_
  try simp only [Act.put, List.setIfInBounds_toArray, List.set_cons_succ, List.set_cons_zero]
  refine qt_value (v := .bool false) (by rfl) (by intro w; go_simp) ?_
  try simp only [Act.put, List.setIfInBounds_toArray, List.set_cons_succ, List.set_cons_zero]
  refine qt_value (v := .bool false) (by rfl) (by intro w; go_simp) ?_
  try simp only [Act.put, List.setIfInBounds_toArray, List.set_cons_succ, List.set_cons_zero]
  refine qt_value (v := .bool true) (by rfl) (by intro w; go_simp) ?_
  try simp only [Act.put, List.setIfInBounds_toArray, List.set_cons_succ, List.set_cons_zero]
  refine qt_value (v := .bool true) (by rfl) (by intro w; go_simp) ?_
  try simp only [Act.put, List.setIfInBounds_toArray, List.set_cons_succ, List.set_cons_zero]
  refine qt_value (v := .int .i64 0) (by rfl) (by intro w; go_simp) ?_
  try simp only [Act.put, List.setIfInBounds_toArray, List.set_cons_succ, List.set_cons_zero]
  refine qt_value (v := .bool false) (by rfl) (by intro w; go_simp) ?_
  try simp only [Act.put, List.setIfInBounds_toArray, List.set_cons_succ, List.set_cons_zero]
  refine qt_value (v := .bool false) (by rfl) (by intro w; go_simp) ?_
  try simp only [Act.put, List.setIfInBounds_toArray, List.set_cons_succ, List.set_cons_zero]
  refine qt_value (v := .bool false) (by rfl) (by intro w; go_simp) ?_
  try simp only [Act.put, List.setIfInBounds_toArray, List.set_cons_succ, List.set_cons_zero]
  refine wpQuiet_nil ?_
  rintro _ ⟨u7, rfl⟩
  go_wp2_with (fail)
  refine region (by kernel_rfl) (by kernel_rfl) fun _ => ?_
  refine qt_load (by rfl) rfl inferInstance inferInstance ?_
  try simp only [Act.put, List.setIfInBounds_toArray, List.set_cons_succ, List.set_cons_zero]
  refine qt_call (f := 23) (args := #[iv s a]) (by rfl) (by intro w; go_simp) (fun u => HX.out _ (HT.out.later (KW.below _) (Nat.le_refl _))) ?_
  try simp only [Act.put, List.setIfInBounds_toArray, List.set_cons_succ, List.set_cons_zero]
  refine qt_load (by rfl) rfl inferInstance inferInstance ?_
  try simp only [Act.put, List.setIfInBounds_toArray, List.set_cons_succ, List.set_cons_zero]
  refine qt_call (f := 24) (args := #[iv s a]) (by rfl) (by intro w; go_simp) (fun u => HY.out _) ?_
  try simp only [Act.put, List.setIfInBounds_toArray, List.set_cons_succ, List.set_cons_zero]
  refine qt_value (v := .bool true) (by rfl) (by intro w; go_simp) ?_
  try simp only [Act.put, List.setIfInBounds_toArray, List.set_cons_succ, List.set_cons_zero]
  refine qt_value (v := .bool true) (by rfl) (by intro w; go_simp) ?_
  try simp only [Act.put, List.setIfInBounds_toArray, List.set_cons_succ, List.set_cons_zero]
  refine qt_call (f := 18) (args := #[]) (by rfl) (by intro w; go_simp) (fun u => HW.out _ (HT.out.later (KW.below _) (Nat.le_refl _))) ?_
  try simp only [Act.put, List.setIfInBounds_toArray, List.set_cons_succ, List.set_cons_zero]
  refine qt_value (v := .bool true) (by rfl) (by intro w; go_simp) ?_
  try simp only [Act.put, List.setIfInBounds_toArray, List.set_cons_succ, List.set_cons_zero]
  refine qt_value (v := .bool true) (by rfl) (by intro w; go_simp) ?_
  try simp only [Act.put, List.setIfInBounds_toArray, List.set_cons_succ, List.set_cons_zero]
  refine wpQuiet_nil ?_
  rintro _ ⟨u8, rfl⟩
  go_wp2_with (fail)
  go_ret
  exact ⟨rfl, KW.below _⟩
theorem signSmall_walk (n : Int) (h1 : -9223372036854775808 ≤ n) (h2 : n ≤ 9223372036854775807) (s : Bool) (a : Nat) (ha : Hid (a < M)) (w : World) (ht : Tab w) : Calls Tryd.prog 5 #[.int .i64 n, iv s a] w (TrueAt5 w) := by
  by_cases hi : inI (sg s a) = true
  · exact signSmall_in n h1 h2 s a ha hi w ht
  · have hi := of_decide_eq_false (by simpa using hi : inI (sg s a) = false)
    by_cases hl : sg s a < -9223372036854775808
    · exact signSmall_low n h1 h2 s a ha hl w ht
    · exact signSmall_high n h1 h2 s a ha (by omega) w ht
end Go.Proofs.YtmmnekcnaohnbaaDoor.SignW
