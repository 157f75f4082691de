/-
  package sign: sum, difference, product, order: contracts over the translation.
-/
import Derived.Test.YtmmnekcnaohnbaaDoorSign
namespace Go.Proofs.YtmmnekcnaohnbaaDoor.SignW
open Go.RowKit
open DigM WideM WideV KM DigW WideW QuotW QuotM DecM FmtW SignM
/-- a number and whether it fits -/
abbrev fv (z : Int) : Value := .tuple #[nv (lowI z), .bool (fitI z)]
theorem fv_fit {z : Int} (h : z.natAbs < M) : fv z = .tuple #[nv z, .bool true] := by unfold fv; rw [low_fit h, fit_yes h]
theorem fv_big {z : Int} (h : ¬ z.natAbs < M) : fv z = .tuple #[iv false 0, .bool false] := by unfold fv; rw [low_big h, fit_no h]; rfl
theorem wadd_fit (a b : Nat) (ha : Hid (a < M)) (hb : Hid (b < M)) (h : a + b < M) (w : World) : Calls Tryd.prog 26 #[wv a, wv b] w (Ret (.tuple #[wv (a + b), .bool true]) w) := by
  have h1 := wadd_any a b ha hb w
  rwa [low_of h, show fitB (a + b) = true from decide_eq_true h] at h1
theorem wadd_big (a b : Nat) (ha : Hid (a < M)) (hb : Hid (b < M)) (h : ¬ a + b < M) (w : World) : Calls Tryd.prog 26 #[wv a, wv b] w (Ret (.tuple #[wv (low (a + b)), .bool false]) w) := by
  have h1 := wadd_any a b ha hb w
  rwa [show fitB (a + b) = false from decide_eq_false h] at h1
theorem wmul_fit (a b : Nat) (ha : Hid (a < M)) (hb : Hid (b < M)) (h : a * b < M) (w : World) : Calls Tryd.prog 28 #[wv a, wv b] w (Ret (.tuple #[wv (a * b), .bool true]) w) := by
  have h1 := wmul_any a b ha hb w
  rwa [low_of h, show fitB (a * b) = true from decide_eq_true h] at h1
theorem wmul_big (a b : Nat) (ha : Hid (a < M)) (hb : Hid (b < M)) (h : ¬ a * b < M) (w : World) : Calls Tryd.prog 28 #[wv a, wv b] w (Ret (.tuple #[wv (low (a * b)), .bool false]) w) := by
  have h1 := wmul_any a b ha hb w
  rwa [show fitB (a * b) = false from decide_eq_false h] at h1
theorem apart_lt {s t : Bool} {a b : Nat} (ha : a < M) (hb : b < M) (h : s ≠ t) : (sg s a + sg t b).natAbs < M := by
  cases s <;> cases t <;> first | exact absurd rfl h | (simp only [sg_t, sg_f]; omega)
set_option maxRecDepth 100000 in
set_option maxHeartbeats 3200000 in
theorem sadd_any (s t : Bool) (a b : Nat) (ha : Hid (a < M)) (hb : Hid (b < M)) (w : World) : Calls Tryd.prog 8 #[iv s a, iv t b] w (Ret (fv (sg s a + sg t b)) w) := by
  by_cases h : s = t
  · subst h
    rw [← sg_same]
    by_cases hf : a + b < M
    · rw [fv_fit (by rw [sg_abs]; exact hf)]
      have HA := Lib.hid (fun w => wadd_fit a b ha hb hf w)
      have HT := Lib.hid (fun w => told_any s (a + b) (Lib.hid hf) w)
      generalize a + b = d at *
      generalize sg s d = z at *
      refine enter fun u => ?_
      go_enter Tryd.func8, Tryd.ntmps8
      go_wp2_with (first
        | ((with_reducible apply list_box); exact rfl; intro _ _)
        | ((with_reducible apply ls_alloc); infer_instance; intro _ _)
        | ((with_reducible apply ls_load); exact rfl; infer_instance; infer_instance)
        | ((with_reducible apply ls_store); exact rfl; exact rfl; infer_instance; infer_instance; infer_instance; intro _)
        | (go_at_call 26; (with_reducible refine (HA.out _).mono ?_); rintro e w' ⟨rfl, hb'⟩; obtain ⟨_, rfl⟩ := KW.go _ hb'; clear hb')
        | (go_at_call 27; (with_reducible refine (HT.out _).mono ?_); rintro e w' ⟨rfl, hb'⟩; obtain ⟨_, rfl⟩ := KW.go _ hb'; clear hb'))
      exact bd_cell_tmp Tryd.results8 rfl rfl inferInstance inferInstance ⟨rfl, KW.below _⟩
    · rw [fv_big (by rw [sg_abs]; exact hf)]
      have HA := Lib.hid (fun w => wadd_big a b ha hb hf w)
      generalize low (a + b) = d at *
      refine enter fun u => ?_
      go_enter Tryd.func8, Tryd.ntmps8
      go_wp2_with (first
        | ((with_reducible apply list_box); exact rfl; intro _ _)
        | ((with_reducible apply ls_alloc); infer_instance; intro _ _)
        | ((with_reducible apply ls_load); exact rfl; infer_instance; infer_instance)
        | ((with_reducible apply ls_store); exact rfl; exact rfl; infer_instance; infer_instance; infer_instance; intro _)
        | (with_reducible apply ls_I0)
        | (go_at_call 26; (with_reducible refine (HA.out _).mono ?_); rintro e w' ⟨rfl, hb'⟩; obtain ⟨_, rfl⟩ := KW.go _ hb'; clear hb'))
      exact bd_cell_tmp Tryd.results8 rfl rfl inferInstance inferInstance ⟨rfl, KW.below _⟩
  · have hn : (s != t) = true := by simpa using h
    have HA := Lib.hid (fun w => apart_any s t a b ha hb h w)
    rw [fv_fit (apart_lt ha.out hb.out h)]
    generalize sg s a + sg t b = z at *
    cases s <;> cases t <;> first | exact absurd rfl h | skip
    · refine enter fun u => ?_
      go_enter Tryd.func8, Tryd.ntmps8
      go_wp2_with (first
        | ((with_reducible apply list_box); exact rfl; intro _ _)
        | ((with_reducible apply ls_alloc); infer_instance; intro _ _)
        | ((with_reducible apply ls_load); exact rfl; infer_instance; infer_instance)
        | ((with_reducible apply ls_store); exact rfl; exact rfl; infer_instance; infer_instance; infer_instance; intro _)
        | (go_at_call 25; (with_reducible refine (HA.out _).mono ?_); rintro e w' ⟨rfl, hb'⟩; obtain ⟨_, rfl⟩ := KW.go _ hb'; clear hb'))
      exact bd_cell_tmp Tryd.results8 rfl rfl inferInstance inferInstance ⟨rfl, KW.below _⟩
    · refine enter fun u => ?_
      go_enter Tryd.func8, Tryd.ntmps8
      go_wp2_with (first
        | ((with_reducible apply list_box); exact rfl; intro _ _)
        | ((with_reducible apply ls_alloc); infer_instance; intro _ _)
        | ((with_reducible apply ls_load); exact rfl; infer_instance; infer_instance)
        | ((with_reducible apply ls_store); exact rfl; exact rfl; infer_instance; infer_instance; infer_instance; intro _)
        | (go_at_call 25; (with_reducible refine (HA.out _).mono ?_); rintro e w' ⟨rfl, hb'⟩; obtain ⟨_, rfl⟩ := KW.go _ hb'; clear hb'))
      exact bd_cell_tmp Tryd.results8 rfl rfl inferInstance inferInstance ⟨rfl, KW.below _⟩
theorem nv_lt {z : Int} (h : z.natAbs < M) : (-z).natAbs < M := by omega
set_option maxRecDepth 100000 in
set_option maxHeartbeats 3200000 in
theorem ssub_any (s t : Bool) (a b : Nat) (ha : Hid (a < M)) (hb : Hid (b < M)) (w : World) : Calls Tryd.prog 9 #[iv s a, iv t b] w (Ret (fv (sg s a - sg t b)) w) := by
  have HL := Lib.hid (fun w => sless_any t b hb w)
  have HA : Hid (∀ w, Calls Tryd.prog 8 #[iv s a, nv (- sg t b)] w (Ret (fv (sg s a - sg t b)) w)) := Lib.hid fun w => by
    have := sadd_any s (ng (- sg t b)) a (- sg t b).natAbs ha (Lib.hid (nv_lt (by rw [sg_abs]; exact hb.out))) w
    rwa [sg_ng, ← Int.sub_eq_add_neg] at this
  unfold nv at HL HA
  generalize ng (- sg t b) = r at *
  generalize (- sg t b).natAbs = k at *
  unfold fv nv at *
  generalize lowI (sg s a - sg t b) = z at *
  generalize fitI (sg s a - sg t b) = o at *
  refine enter fun u => ?_
  go_enter Tryd.func9, Tryd.ntmps9
  go_wp2_with (first
    | ((with_reducible apply list_box); exact rfl; intro _ _)
    | ((with_reducible apply ls_alloc); infer_instance; intro _ _))
  try simp only [Act.put, List.setIfInBounds_toArray, List.set_cons_succ, List.set_cons_zero]
  refine region_any [0, 1, 2, 3, 4, 5] [6, 7] _ (Sub.skip (h := Sub.both (h := Sub.both (h := Sub.nil)))) (by kernel_rfl) (by kernel_rfl) ?_
  simp only [pick, List.filterMap_cons, List.filterMap_nil, List.getElem?_cons_zero, List.getElem?_cons_succ]
  (with_reducible apply hd_load); exact rfl; infer_instance; infer_instance
  (with_reducible apply hd_load); exact rfl; infer_instance; infer_instance
  refine head_call (f := 16) (args := #[iv t b]) (by intro w; go_simp) (fun w => HL.out w) ?_
  try simp only [Act.put, List.setIfInBounds_toArray, List.set_cons_succ, List.set_cons_zero]
  refine head_call (f := 8) (args := #[iv s a, iv r k]) (by intro w; go_simp) (fun w => HA.out w) ?_
  try simp only [Act.put, List.setIfInBounds_toArray, List.set_cons_succ, List.set_cons_zero]
  refine head_value (v := iv (ng z) z.natAbs) (by intro w; go_simp) ?_
  try simp only [Act.put, List.setIfInBounds_toArray, List.set_cons_succ, List.set_cons_zero]
  refine head_value (v := .bool o) (by intro w; go_simp) ?_
  try simp only [Act.put, List.setIfInBounds_toArray, List.set_cons_succ, List.set_cons_zero]
  refine head_nil ?_
  (with_reducible apply tl_store); exact rfl; exact rfl; infer_instance; infer_instance; infer_instance; infer_instance
  refine tailS_value (v := .bool o) (by intro w; go_simp) inferInstance ?_
  try simp only [Act.put, List.setIfInBounds_toArray, List.set_cons_succ, List.set_cons_zero]
  refine tailS_nil fun u4 => ?_
  go_wp2_with (fail)
  exact bd_cell_tmp Tryd.results9 rfl rfl inferInstance inferInstance ⟨rfl, KW.below _⟩
set_option maxRecDepth 100000 in
set_option maxHeartbeats 3200000 in
theorem smul_any (s t : Bool) (a b : Nat) (ha : Hid (a < M)) (hb : Hid (b < M)) (w : World) : Calls Tryd.prog 10 #[iv s a, iv t b] w (Ret (fv (sg s a * sg t b)) w) := by
  rw [← sg_mul]
  obtain ⟨r, hr⟩ : ∃ r, r = (s != t) := ⟨_, rfl⟩
  rw [← hr]
  by_cases hf : a * b < M
  · rw [fv_fit (by rw [sg_abs]; exact hf)]
    have HA := Lib.hid (fun w => wmul_fit a b ha hb hf w)
    have HT := Lib.hid (fun w => told_any r (a * b) (Lib.hid hf) w)
    generalize a * b = d at *
    generalize sg r d = z at *
    refine enter fun u => ?_
    go_enter Tryd.func10, Tryd.ntmps10
    cases s <;> cases t
    all_goals (
      first | (obtain rfl : r = true := hr) | (obtain rfl : r = false := hr)
      go_wp2_with (first
        | ((with_reducible apply list_box); exact rfl; intro _ _)
        | ((with_reducible apply ls_alloc); infer_instance; intro _ _)
        | ((with_reducible apply ls_load); exact rfl; infer_instance; infer_instance)
        | ((with_reducible apply ls_store); exact rfl; exact rfl; infer_instance; infer_instance; infer_instance; intro _)
        | (go_at_call 28; (with_reducible refine (HA.out _).mono ?_); rintro e w' ⟨rfl, hb'⟩; obtain ⟨_, rfl⟩ := KW.go _ hb'; clear hb')
        | (go_at_call 27; (with_reducible refine (HT.out _).mono ?_); rintro e w' ⟨rfl, hb'⟩; obtain ⟨_, rfl⟩ := KW.go _ hb'; clear hb'))
      exact bd_cell_tmp Tryd.results10 rfl rfl inferInstance inferInstance ⟨rfl, KW.below _⟩)
  · rw [fv_big (by rw [sg_abs]; exact hf)]
    clear hr r
    have HA := Lib.hid (fun w => wmul_big a b ha hb hf w)
    generalize low (a * b) = d at *
    refine enter fun u => ?_
    go_enter Tryd.func10, Tryd.ntmps10
    go_wp2_with (first
      | ((with_reducible apply list_box); exact rfl; intro _ _)
      | ((with_reducible apply ls_alloc); infer_instance; intro _ _)
      | ((with_reducible apply ls_load); exact rfl; infer_instance; infer_instance)
      | ((with_reducible apply ls_store); exact rfl; exact rfl; infer_instance; infer_instance; infer_instance; intro _)
      | (with_reducible apply ls_I0)
      | (go_at_call 28; (with_reducible refine (HA.out _).mono ?_); rintro e w' ⟨rfl, hb'⟩; obtain ⟨_, rfl⟩ := KW.go _ hb'; clear hb'))
    exact bd_cell_tmp Tryd.results10 rfl rfl inferInstance inferInstance ⟨rfl, KW.below _⟩
/-- how a number lies to 0 -/
def cmpZ (z : Int) : Int := if z < 0 then -1 else if z = 0 then 0 else 1
theorem cmpZ_pos {a b : Nat} : cmpI a b = cmpZ ((a : Int) - b) := by
  unfold cmpI cmpZ
  by_cases h : a < b
  · rw [if_pos h, if_pos (by omega)]
  · rw [if_neg h, if_neg (show ¬ ((a : Int) - b < 0) by omega)]
    by_cases h2 : a = b
    · rw [if_pos h2, if_pos (by omega)]
    · rw [if_neg h2, if_neg (by omega)]
set_option maxRecDepth 100000 in
set_option maxHeartbeats 3200000 in
theorem scmp_nv (x y : Int) (hx : Hid (x.natAbs < M)) (hy : Hid (y.natAbs < M)) (s t : Bool) (a b : Nat) (hs : sg s a = x) (ht : sg t b = y) (ha : Hid (a < M)) (hb : Hid (b < M)) (w : World) : Calls Tryd.prog 14 #[iv s a, iv t b] w (Ret (.int .i64 (cmpZ (x - y))) w) := by
  have HX := Lib.hid (fun w => fix_any s a ha w)
  have HY := Lib.hid (fun w => fix_any t b hb w)
  rw [hs] at HX
  rw [ht] at HY
  unfold nv at HX HY
  have HC := fun w => wcmp_any x.natAbs y.natAbs hx hy w
  have HD := fun w => wcmp_any y.natAbs x.natAbs hy hx w
  have e1 : ng x = true → ng y = true → cmpI y.natAbs x.natAbs = cmpZ (x - y) := fun h1 h2 => by
    have h1 := of_decide_eq_true h1
    have h2 := of_decide_eq_true h2
    rw [cmpZ_pos]; congr 1; omega
  have e2 : ng x = false → ng y = false → cmpI x.natAbs y.natAbs = cmpZ (x - y) := fun h1 h2 => by
    have h1 := of_decide_eq_false h1
    have h2 := of_decide_eq_false h2
    rw [cmpZ_pos]; congr 1; omega
  have e3 : ng x = true → ng y = false → -1 = cmpZ (x - y) := fun h1 h2 => by
    have h1 := of_decide_eq_true h1
    have h2 := of_decide_eq_false h2
    unfold cmpZ; rw [if_pos (by omega)]
  have e4 : ng x = false → ng y = true → 1 = cmpZ (x - y) := fun h1 h2 => by
    have h1 := of_decide_eq_false h1
    have h2 := of_decide_eq_true h2
    unfold cmpZ; rw [if_neg (by omega), if_neg (by omega)]
  clear hs ht
  generalize cmpZ (x - y) = c at *
  generalize ng x = p at *
  generalize ng y = q at *
  generalize x.natAbs = m at *
  generalize y.natAbs = n at *
  refine enter fun u => ?_
  go_enter Tryd.func14, Tryd.ntmps14
  go_wp2_with (first
    | ((with_reducible apply list_box); exact rfl; intro _ _))
  try simp only [Act.put, List.setIfInBounds_toArray, List.set_cons_succ, List.set_cons_zero]
  refine region_tail 4 (by kernel_rfl) (by kernel_rfl) fun _ => ?_
  simp only [List.take_succ_cons, List.take_zero, List.drop_succ_cons, List.drop_zero]
  refine qt_load (by rfl) rfl inferInstance inferInstance ?_
  try simp only [Act.put, List.setIfInBounds_toArray, List.set_cons_succ, List.set_cons_zero]
  refine qt_call (f := 17) (args := #[iv s a]) (by rfl) (by intro w; go_simp) (fun u => HX.out _) ?_
  try simp only [Act.put, List.setIfInBounds_toArray, List.set_cons_succ, List.set_cons_zero]
  refine qt_load (by rfl) rfl inferInstance inferInstance ?_
  try simp only [Act.put, List.setIfInBounds_toArray, List.set_cons_succ, List.set_cons_zero]
  refine qt_call (f := 17) (args := #[iv t b]) (by rfl) (by intro w; go_simp) (fun u => HY.out _) ?_
  try simp only [Act.put, List.setIfInBounds_toArray, List.set_cons_succ, List.set_cons_zero]
  refine wpQuiet_nil ?_
  rintro _ ⟨u3, rfl⟩
  cases p <;> cases q
  · have e := e2 rfl rfl
    rw [e] at HC
    have HC := Lib.hid HC
    go_wp2_with (first
      | ((with_reducible apply ls_load); exact rfl; infer_instance; infer_instance)
      | ((with_reducible apply ls_store); exact rfl; exact rfl; infer_instance; infer_instance; infer_instance; intro _)
      | (go_at_call 35; (with_reducible refine (HC.out _).mono ?_); rintro e w' ⟨rfl, hb'⟩; obtain ⟨_, rfl⟩ := KW.go _ hb'; clear hb'))
    go_ret
    exact ⟨rfl, KW.below _⟩
  · obtain rfl := e4 rfl rfl
    go_wp2_with (first
      | ((with_reducible apply ls_load); exact rfl; infer_instance; infer_instance)
      | ((with_reducible apply ls_store); exact rfl; exact rfl; infer_instance; infer_instance; infer_instance; intro _))
    go_ret
    exact ⟨rfl, KW.below _⟩
  · obtain rfl := e3 rfl rfl
    go_wp2_with (first
      | ((with_reducible apply ls_load); exact rfl; infer_instance; infer_instance)
      | ((with_reducible apply ls_store); exact rfl; exact rfl; infer_instance; infer_instance; infer_instance; intro _))
    go_ret
    exact ⟨rfl, KW.below _⟩
  · have e := e1 rfl rfl
    rw [e] at HD
    have HD := Lib.hid HD
    go_wp2_with (first
      | ((with_reducible apply ls_load); exact rfl; infer_instance; infer_instance)
      | ((with_reducible apply ls_store); exact rfl; exact rfl; infer_instance; infer_instance; infer_instance; intro _)
      | (go_at_call 35; (with_reducible refine (HD.out _).mono ?_); rintro e w' ⟨rfl, hb'⟩; obtain ⟨_, rfl⟩ := KW.go _ hb'; clear hb'))
    go_ret
    exact ⟨rfl, KW.below _⟩
end Go.Proofs.YtmmnekcnaohnbaaDoor.SignW
