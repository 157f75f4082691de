/-
  The laws of layer 5: the layer's own example; contracts on numbers that may be.
-/
import Derived.Test.YtmmnekcnaohnbaaDoorSignRef3
namespace Go.Proofs.YtmmnekcnaohnbaaDoor.SignW
open Go.RowKit
open DigM WideM WideV KM DigW WideW QuotW QuotM DecM FmtW SignM
open Go.Lib (decDigits nDigits)
def TrueAt5 (w : World) (e : Ending) (w' : World) : Prop := e = .returned (.bool true) ∧ Below w.heap.size w w'
section
variable {x y : Int} (hx : Hid (x.natAbs < M)) (hy : Hid (y.natAbs < M)) (w : World)
include hx
theorem sfix_nv : Calls Tryd.prog 17 #[nv x] w (Ret (nv x) w) := by have := fix_any (ng x) x.natAbs hx w; rwa [sg_ng] at this
theorem sless_nv : Calls Tryd.prog 16 #[nv x] w (Ret (nv (-x)) w) := by have := sless_any (ng x) x.natAbs hx w; rwa [sg_ng] at this
theorem small_nv : Calls Tryd.prog 21 #[nv x] w (Ret (smallV x) w) := by have := small_any (ng x) x.natAbs hx w; rwa [sg_ng] at this
theorem stext_nv (ht : Tab w) : Calls Tryd.prog 23 #[nv x] w (Ret (vs (zdec x)) w) := by have := stext_any (ng x) x.natAbs hx w ht; rwa [sg_ng] at this
theorem rfix_nv : Calls Tryd.prog 7 #[nv x] w (Ret (nv x) w) := by have := rfix_any (ng x) x.natAbs hx w; rwa [sg_ng] at this
theorem rless_nv : Calls Tryd.prog 12 #[nv x] w (Ret (nv (-x)) w) := by have := rless_any (ng x) x.natAbs hx w; rwa [sg_ng] at this
include hy
theorem sadd_nv : Calls Tryd.prog 8 #[nv x, nv y] w (Ret (fv (x + y)) w) := by have := sadd_any (ng x) (ng y) x.natAbs y.natAbs hx hy w; rwa [sg_ng, sg_ng] at this
theorem ssub_nv : Calls Tryd.prog 9 #[nv x, nv y] w (Ret (fv (x - y)) w) := by have := ssub_any (ng x) (ng y) x.natAbs y.natAbs hx hy w; rwa [sg_ng, sg_ng] at this
theorem smul_nv : Calls Tryd.prog 10 #[nv x, nv y] w (Ret (fv (x * y)) w) := by have := smul_any (ng x) (ng y) x.natAbs y.natAbs hx hy w; rwa [sg_ng, sg_ng] at this
theorem scmp_any (w : World) : Calls Tryd.prog 14 #[nv x, nv y] w (Ret (.int .i64 (cmpZ (x - y))) w) := scmp_nv x y hx hy (ng x) (ng y) x.natAbs y.natAbs (sg_ng x) (sg_ng y) hx hy w
theorem radd_nv : Calls Tryd.prog 11 #[nv x, nv y] w (Ret (fv (x + y)) w) := by have := radd_any (ng x) (ng y) x.natAbs y.natAbs hx hy w; rwa [sg_ng, sg_ng] at this
theorem rmul_nv : Calls Tryd.prog 13 #[nv x, nv y] w (Ret (fv (x * y)) w) := by have := rmul_any (ng x) (ng y) x.natAbs y.natAbs hx hy w; rwa [sg_ng, sg_ng] at this
theorem rcmp_nv : Calls Tryd.prog 15 #[nv x, nv y] w (Ret (.int .i64 (cmpZ (x - y))) w) := by have := rcmp_any (ng x) (ng y) x.natAbs y.natAbs hx hy w; rwa [sg_ng, sg_ng] at this
end
theorem small_M {n : Nat} (h : n < 18446744073709551617) : n < M := Nat.lt_trans h m_big
theorem dig4 : decDigits 4 = [52] := by rw [DecM.dec_small (by decide)]; decide +kernel
/-- what the layer's example reckons with -/
theorem example_parts5 : ∃ p q r o : Value, p = nv (-7) ∧ q = nv 2 ∧ (∃ m : Nat, r = iv true m ∧ Hid (
    (∀ w, Calls Tryd.prog 20 #[.int .i64 (-7)] w (Ret p w)) ∧ (∀ w, Calls Tryd.prog 20 #[.int .i64 2] w (Ret q w)) ∧ (∀ w, Calls Tryd.prog 20 #[.int .i64 1] w (Ret o w)) ∧
    (∀ w, Calls Tryd.prog 19 #[p, q] w (Ret (.tuple #[iv true m, .int .i64 0]) w)) ∧
    (∀ w, Calls Tryd.prog 21 #[iv true m] w (Ret (.tuple #[.int .i64 (-4), .bool true]) w)) ∧
    (∀ w, Tab w → Calls Tryd.prog 23 #[iv true m] w (Ret (.string ⟨#[45, 52]⟩) w)) ∧
    (∀ w, Calls Tryd.prog 14 #[iv true m, o] w (Ret (.int .i64 (-1)) w)))) := by
  have h4 : Hid ((-4 : Int).natAbs < M) := Lib.hid (small_M (by decide))
  have h1 : Hid ((1 : Int).natAbs < M) := Lib.hid (small_M (by decide))
  refine ⟨nv (-7), nv 2, _, nv 1, rfl, rfl, 4, rfl, Lib.hid ⟨fun w => sof_any (-7) (by decide) (by decide) w, fun w => sof_any 2 (by decide) (by decide) w, fun w => sof_any 1 (by decide) (by decide) w, fun w => ?_, fun w => ?_, fun w ht => ?_, fun w => ?_⟩⟩
  · exact sover_some true false 7 2 (Lib.hid (small_M (by decide))) (Lib.hid (small_M (by decide))) (by decide) w
  · exact small_nv h4 w
  · have := stext_nv h4 w ht
    unfold zdec vs at this
    rw [if_pos (by decide), show (-4 : Int).natAbs = 4 from rfl, dig4] at this
    exact this
  · exact scmp_any h4 h1 w
set_option maxRecDepth 100000 in
set_option maxHeartbeats 3200000 in
theorem awake5_any (w : World) (ht : Tab w) : Calls Tryd.prog 18 #[] w (Ret (.bool true) w) := by
  obtain ⟨p, q, r, o, hp, hq, m, rfl, HH⟩ := example_parts5
  have HT := Lib.hid ht
  have H7 := Lib.hid HH.out.1
  have H2 := Lib.hid HH.out.2.1
  have H1 := Lib.hid HH.out.2.2.1
  have HO := Lib.hid HH.out.2.2.2.1
  have HS := Lib.hid HH.out.2.2.2.2.1
  have HX := Lib.hid HH.out.2.2.2.2.2.1
  have HC := Lib.hid HH.out.2.2.2.2.2.2
  clear HH ht hp hq
  refine enter fun u => ?_
  go_enter Tryd.func18, Tryd.ntmps18
  go_wp2_with (first
    | ((with_reducible apply ls_alloc); infer_instance; intro _ _)
    | ((with_reducible apply ls_load); exact rfl; infer_instance; infer_instance)
    | ((with_reducible apply ls_store); exact rfl; exact rfl; infer_instance; infer_instance; infer_instance; intro _)
    | (go_at_call 20; (with_reducible refine (H7.out _).mono ?_); rintro e w' ⟨rfl, hb'⟩; obtain ⟨_, rfl⟩ := KW.go _ hb'; clear hb')
    | (go_at_call 20; (with_reducible refine (H2.out _).mono ?_); rintro e w' ⟨rfl, hb'⟩; obtain ⟨_, rfl⟩ := KW.go _ hb'; clear hb')
    | (go_at_call 19; (with_reducible refine (HO.out _).mono ?_); rintro e w' ⟨rfl, hb'⟩; obtain ⟨_, rfl⟩ := KW.go _ hb'; clear hb')
    | (go_at_call 21; (with_reducible refine (HS.out _).mono ?_); rintro e w' ⟨rfl, hb'⟩; obtain ⟨_, rfl⟩ := KW.go _ hb'; clear hb'))
  refine region (by kernel_rfl) (by kernel_rfl) fun _ => ?_
  refine qt_value (v := .int .i64 0) (by rfl) (by intro w; go_simp) ?_
  try simp only [Act.put, List.setIfInBounds_toArray, List.set_cons_succ, List.set_cons_zero]
  refine qt_value (v := .bool true) (by rfl) (by intro w; go_simp) ?_
  try simp only [Act.put, List.setIfInBounds_toArray, List.set_cons_succ, List.set_cons_zero]
  refine qt_value (v := .bool true) (by rfl) (by intro w; go_simp) ?_
  try simp only [Act.put, List.setIfInBounds_toArray, List.set_cons_succ, List.set_cons_zero]
  refine qt_value (v := .bool true) (by rfl) (by intro w; go_simp) ?_
  try simp only [Act.put, List.setIfInBounds_toArray, List.set_cons_succ, List.set_cons_zero]
  refine qt_value (v := .bool true) (by rfl) (by intro w; go_simp) ?_
  try simp only [Act.put, List.setIfInBounds_toArray, List.set_cons_succ, List.set_cons_zero]
  refine qt_value (v := .bool true) (by rfl) (by intro w; go_simp) ?_
  try simp only [Act.put, List.setIfInBounds_toArray, List.set_cons_succ, List.set_cons_zero]
  refine qt_value (v := .int .i64 (-4)) (by rfl) (by intro w; go_simp) ?_
  try simp only [Act.put, List.setIfInBounds_toArray, List.set_cons_succ, List.set_cons_zero]
  refine qt_value (v := .bool true) (by rfl) (by intro w; go_simp) ?_
  try simp only [Act.put, List.setIfInBounds_toArray, List.set_cons_succ, List.set_cons_zero]
  refine qt_value (v := .bool true) (by rfl) (by intro w; go_simp) ?_
  try simp only [Act.put, List.setIfInBounds_toArray, List.set_cons_succ, List.set_cons_zero]
  refine qt_value (v := .bool true) (by rfl) (by intro w; go_simp) ?_
  try simp only [Act.put, List.setIfInBounds_toArray, List.set_cons_succ, List.set_cons_zero]
  refine qt_load (by rfl) rfl inferInstance inferInstance ?_
  try simp only [Act.put, List.setIfInBounds_toArray, List.set_cons_succ, List.set_cons_zero]
  refine qt_call (f := 23) (args := #[iv true m]) (by rfl) (by intro w; go_simp) (fun u => HX.out _ (HT.out.later (KW.below _) (Nat.le_refl _))) ?_
  try simp only [Act.put, List.setIfInBounds_toArray, List.set_cons_succ, List.set_cons_zero]
  refine qt_value (v := .bool true) (by rfl) (by intro w; go_simp) ?_
  try simp only [Act.put, List.setIfInBounds_toArray, List.set_cons_succ, List.set_cons_zero]
  refine qt_value (v := .bool true) (by rfl) (by intro w; go_simp) ?_
  try simp only [Act.put, List.setIfInBounds_toArray, List.set_cons_succ, List.set_cons_zero]
  refine qt_value (v := .bool true) (by rfl) (by intro w; go_simp) ?_
  try simp only [Act.put, List.setIfInBounds_toArray, List.set_cons_succ, List.set_cons_zero]
  refine qt_load (by rfl) rfl inferInstance inferInstance ?_
  try simp only [Act.put, List.setIfInBounds_toArray, List.set_cons_succ, List.set_cons_zero]
  refine qt_call (f := 20) (args := #[.int .i64 1]) (by rfl) (by intro w; go_simp) (fun u => H1.out _) ?_
  try simp only [Act.put, List.setIfInBounds_toArray, List.set_cons_succ, List.set_cons_zero]
  refine qt_call (f := 14) (args := #[iv true m, o]) (by rfl) (by intro w; go_simp) (fun u => HC.out _) ?_
  try simp only [Act.put, List.setIfInBounds_toArray, List.set_cons_succ, List.set_cons_zero]
  refine qt_value (v := .bool true) (by rfl) (by intro w; go_simp) ?_
  try simp only [Act.put, List.setIfInBounds_toArray, List.set_cons_succ, List.set_cons_zero]
  refine qt_value (v := .bool true) (by rfl) (by intro w; go_simp) ?_
  try simp only [Act.put, List.setIfInBounds_toArray, List.set_cons_succ, List.set_cons_zero]
  refine qt_value (v := .bool true) (by rfl) (by intro w; go_simp) ?_
  refine wpQuiet_nil ?_
  rintro _ ⟨u7, rfl⟩
  go_wp2_with (fail)
  go_ret
  exact ⟨rfl, KW.below _⟩
end Go.Proofs.YtmmnekcnaohnbaaDoor.SignW
