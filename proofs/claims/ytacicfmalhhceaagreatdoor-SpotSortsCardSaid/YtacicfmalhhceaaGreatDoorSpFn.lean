/-
  package spot: contracts over the translation.
-/
import Derived.Test.YtacicfmalhhceaaGreatDoorSp
import Derived.Test.YtacicfmalhhceaaGreatDoorSpMath
namespace Go.Proofs.YtacicfmalhhceaaGreatDoor.SpW
open Go.RowKit
open DigM WideM WideV KM DigW WideW QuotW QuotM DecM FmtW SignM SignW RatW PtW SpM
/-- a spot whose parts are numbers -/
abbrev zsv (x y : Int) (d : Nat) : Value := spv (ng x) x.natAbs (ng y) y.natAbs d
abbrev lowSV (s : Bool) (n : Nat) (t : Bool) (m d : Nat) : Value := zsv (sg s (n / gS n m d)) (sg t (m / gS n m d)) (d / gS n m d)
def smallS (n m d : Nat) : Bool := decide (bl n ≤ 120) && decide (bl m ≤ 120) && decide (bl d ≤ 120)
def lowB (s : Bool) (n : Nat) (t : Bool) (m d : Nat) : Bool := !eqB d 0 && decide ((s && !eqB n 0) = s) && decide ((t && !eqB m 0) = t) && eqB (gS n m d) 1
/-- may a spot be? -/
def mayS (s : Bool) (n : Nat) (t : Bool) (m d : Nat) : Bool := smallS n m d && lowB s n t m d
set_option maxRecDepth 100000 in
set_option maxHeartbeats 3200000 in
theorem common_any (n m d : Nat) (hn : Hid (n < M)) (hm : Hid (m < M)) (hd : Hid (d < M)) (w : World) : Calls Tryz.prog 28 #[wv n, wv m, wv d] w (Ret (wv (gS n m d)) w) := by
  have HA := fun w => gcd_any m d hm hd w
  have HB := fun w => gcd_any n (Nat.gcd m d) hn (Lib.hid (gcd_lt hm.out hd.out)) w
  unfold gS
  generalize Nat.gcd m d = g at *
  generalize Nat.gcd n g = h at *
  replace HA := Lib.hid HA
  replace HB := Lib.hid HB
  refine enter fun u => ?_
  go_enter Tryz.func28, Tryz.ntmps28
  go_wp2_with (first
    | ((with_reducible refine ls_skip ?_ ?_); (exact rfl); (try simp only [Act.put, List.setIfInBounds_toArray, List.set_cons_succ, List.set_cons_zero]))
    | ((with_reducible refine ck_box ?_); refine list_box rfl fun _ _ => ?_)
    | ((with_reducible refine ck_alloc ?_); refine ls_alloc inferInstance fun _ _ => ?_))
  refine region_mixS [.take 0, .take 1, .take 2, .take 3, .take 4, .sole 5] _ (Sub.skip (h := Sub.both (h := Sub.both (h := Sub.both (h := Sub.nil))))) (by kernel_rfl) (by kernel_rfl) ?_
  simp only [picksM, Mv.pick, List.filterMap_cons, List.filterMap_nil, List.getElem?_cons_zero, List.getElem?_cons_succ, Option.map_some]
  refine MM.out ?_
  repeat (first
    | ((with_reducible apply mm_load); exact rfl; infer_instance; infer_instance; (try simp only [Act.put, List.setIfInBounds_toArray, List.set_cons_succ, List.set_cons_zero]))
    | ((with_reducible apply mm_cell); exact rfl; infer_instance; infer_instance; (try simp only [Act.put, List.setIfInBounds_toArray, List.set_cons_succ, List.set_cons_zero]))
    | ((with_reducible apply mm_callf (f := 57)); (intro _; go_simp; try exact rfl); (with_reducible exact fun _ u => HA.out _); (try simp only [Act.put, List.setIfInBounds_toArray, List.set_cons_succ, List.set_cons_zero]))
    | ((with_reducible apply mo_callf (f := 57)); infer_instance; (intro _; go_simp; try exact rfl); (with_reducible exact fun u => HA.out _); (try simp only [Act.put, List.setIfInBounds_toArray, List.set_cons_succ, List.set_cons_zero]))
    | ((with_reducible apply mm_callf (f := 57)); (intro _; go_simp; try exact rfl); (with_reducible exact fun _ u => HB.out _); (try simp only [Act.put, List.setIfInBounds_toArray, List.set_cons_succ, List.set_cons_zero]))
    | ((with_reducible apply mo_callf (f := 57)); infer_instance; (intro _; go_simp; try exact rfl); (with_reducible exact fun u => HB.out _); (try simp only [Act.put, List.setIfInBounds_toArray, List.set_cons_succ, List.set_cons_zero]))
    | ((with_reducible apply mm_value); (intro _; go_simp; try exact rfl); (try simp only [Act.put, List.setIfInBounds_toArray, List.set_cons_succ, List.set_cons_zero]))
    | ((with_reducible apply mo_store); exact rfl; exact rfl; infer_instance; infer_instance; infer_instance; infer_instance; (try simp only [Act.put, List.setIfInBounds_toArray, List.set_cons_succ, List.set_cons_zero]))
    | ((with_reducible apply mo_put); exact rfl; exact rfl; infer_instance; infer_instance; infer_instance; infer_instance; (try simp only [Act.put, List.setIfInBounds_toArray, List.set_cons_succ, List.set_cons_zero]))
    | ((with_reducible apply mo_alloc); infer_instance; infer_instance; intro _; (try simp only [Act.put, List.setIfInBounds_toArray, List.set_cons_succ, List.set_cons_zero]))
    | ((with_reducible apply mo_three); (decide); (decide); infer_instance; infer_instance; infer_instance; intro _ _ _; (try simp only [Act.put, List.setIfInBounds_toArray, List.set_cons_succ, List.set_cons_zero]))
    | ((with_reducible apply mo_four); (decide); (decide); infer_instance; infer_instance; infer_instance; infer_instance; intro _ _ _ _; (try simp only [Act.put, List.setIfInBounds_toArray, List.set_cons_succ, List.set_cons_zero]))
    | ((with_reducible apply mo_two); infer_instance; infer_instance; (decide); intro _ _; (try simp only [Act.put, List.setIfInBounds_toArray, List.set_cons_succ, List.set_cons_zero]))
    | ((with_reducible apply mo_load); infer_instance; exact rfl; infer_instance; infer_instance; (try simp only [Act.put, List.setIfInBounds_toArray, List.set_cons_succ, List.set_cons_zero]))
    | ((with_reducible apply mo_cell); infer_instance; exact rfl; infer_instance; infer_instance; (try simp only [Act.put, List.setIfInBounds_toArray, List.set_cons_succ, List.set_cons_zero]))
    | ((with_reducible apply mo_value); infer_instance; (intro _; go_simp; try exact rfl); (try simp only [Act.put, List.setIfInBounds_toArray, List.set_cons_succ, List.set_cons_zero])))
  refine mm_nil fun u7 => ?_
  go_wp2_with (fail)
  exact bd_cell Tryz.results28 rfl inferInstance inferInstance ⟨rfl, KW.below _⟩
theorem ovq_dvd {r : Bool} {n g : Nat} (h : g ∣ n) : ovq r n g = n / g := by
  unfold ovq
  rw [if_neg]
  rintro ⟨_, h1⟩
  exact h1 (Nat.mod_eq_zero_of_dvd h)
set_option maxRecDepth 100000 in
set_option maxHeartbeats 3200000 in
theorem lowered_any (s : Bool) (n g : Nat) (hn : Hid (n < M)) (hg : Hid (g < M)) (hp : 0 < g) (h : g ∣ n) (w : World) : Calls Tryz.prog 30 #[iv s n, wv g] w (Ret (nv (sg s (n / g))) w) := by
  have HO := fun w => sover_some s false n g hn hg hp w
  rw [ovq_dvd h, Bool.bne_false] at HO
  unfold nv at *
  generalize ng (sg s (n / g)) = p at *
  generalize (sg s (n / g)).natAbs = m at *
  replace HO := Lib.hid HO
  clear hp h
  refine enter fun u => ?_
  go_enter Tryz.func30, Tryz.ntmps30
  go_wp2_with (first
    | ((with_reducible refine ls_skip ?_ ?_); (exact rfl); (try simp only [Act.put, List.setIfInBounds_toArray, List.set_cons_succ, List.set_cons_zero]))
    | ((with_reducible refine ck_box ?_); refine list_box rfl fun _ _ => ?_)
    | ((with_reducible refine ck_alloc ?_); refine ls_alloc inferInstance fun _ _ => ?_)
    | ((with_reducible refine ck_load ?_); first | refine ls_load rfl inferInstance inferInstance ?_ | refine ls_cell rfl inferInstance inferInstance ?_)
    | ((with_reducible refine ck_store ?_); refine ls_store rfl rfl inferInstance inferInstance inferInstance fun _ => ?_)
    | ((with_reducible refine ck_build (t := 26) (xs := #[(1, _)]) ?_); refine ls_I1 rfl ?_)
    | (go_at_call 62; (with_reducible refine (HO.out _).mono ?_); rintro e w' ⟨rfl, hb'⟩; obtain ⟨_, rfl⟩ := KW.go _ hb'; clear hb'))
  exact bd_cell Tryz.results30 rfl inferInstance inferInstance ⟨rfl, KW.below _⟩
set_option maxRecDepth 100000 in
set_option maxHeartbeats 3200000 in
theorem make_zero (s : Bool) (n : Nat) (t : Bool) (m : Nat) (w : World) : Calls Tryz.prog 6 #[iv s n, iv t m, wv 0] w (Ret (.tuple #[spv false 0 false 0 0, .int .i64 1]) w) := by
  have HZ := fun w => zero_any 0 M_pos w
  rw [show eqB 0 0 = true from eqB_same 0] at HZ
  replace HZ := Lib.hid HZ
  refine enter fun u => ?_
  go_enter Tryz.func6, Tryz.ntmps6
  go_wp2_with (first
    | ((with_reducible refine ls_skip ?_ ?_); (exact rfl); (try simp only [Act.put, List.setIfInBounds_toArray, List.set_cons_succ, List.set_cons_zero]))
    | ((with_reducible refine ck_box ?_); refine list_box rfl fun _ _ => ?_)
    | ((with_reducible refine ck_alloc ?_); refine ls_alloc inferInstance fun _ _ => ?_)
    | ((with_reducible refine ck_load ?_); first | refine ls_load rfl inferInstance inferInstance ?_ | refine ls_cell rfl inferInstance inferInstance ?_)
    | ((with_reducible refine ck_store ?_); refine ls_store rfl rfl inferInstance inferInstance inferInstance fun _ => ?_)
    | ((with_reducible refine ck_build (t := 28) (xs := #[]) ?_); refine ls_Spot_ ?_)
    | (go_at_call 27; (with_reducible refine (HZ.out _).mono ?_); rintro e w' ⟨rfl, hb'⟩; obtain ⟨_, rfl⟩ := KW.go _ hb'; clear hb'))
  exact bd_cell_tmp Tryz.results6 rfl rfl inferInstance inferInstance ⟨rfl, KW.below _⟩
set_option maxRecDepth 100000 in
set_option maxHeartbeats 3200000 in
theorem make_some (s : Bool) (n : Nat) (t : Bool) (m d : Nat) (hn : Hid (n < M)) (hm : Hid (m < M)) (hd : Hid (d < M)) (hp : 0 < d) (w : World) : Calls Tryz.prog 6 #[iv s n, iv t m, wv d] w (Ret (.tuple #[lowSV s n t m d, .int .i64 0]) w) := by
  have HZ := fun w => zero_any d hd.out w
  rw [show eqB d 0 = false from decide_eq_false (by omega)] at HZ
  have HC := Lib.hid (fun w => common_any n m d hn hm hd w)
  have hg : Hid (gS n m d < M) := Lib.hid (gS_lt hp hd.out)
  have HO := fun w => over_some d (gS n m d) hd hg (gS_pos hp) w
  have HX := fun w => lowered_any s n (gS n m d) hn hg (gS_pos hp) (gS_n n m d) w
  have HY := fun w => lowered_any t m (gS n m d) hm hg (gS_pos hp) (gS_m n m d) w
  unfold OverV at HO
  unfold nv at HX HY
  unfold lowSV zsv
  generalize sg s (n / gS n m d) = x at *
  generalize sg t (m / gS n m d) = y at *
  generalize d / gS n m d = e at *
  generalize d % gS n m d = r at *
  generalize gS n m d = g at *
  generalize ng x = p at *
  generalize ng y = q at *
  generalize x.natAbs = a at *
  generalize y.natAbs = b at *
  replace HZ := Lib.hid HZ
  replace HO := Lib.hid HO
  replace HX := Lib.hid HX
  replace HY := Lib.hid HY
  clear hp hg
  refine enter fun u => ?_
  go_enter Tryz.func6, Tryz.ntmps6
  go_wp2_with (first
    | ((with_reducible refine ls_skip ?_ ?_); (exact rfl); (try simp only [Act.put, List.setIfInBounds_toArray, List.set_cons_succ, List.set_cons_zero]))
    | ((with_reducible refine ck_box ?_); refine list_box rfl fun _ _ => ?_)
    | ((with_reducible refine ck_alloc ?_); refine ls_alloc inferInstance fun _ _ => ?_)
    | ((with_reducible refine ck_load ?_); first | refine ls_load rfl inferInstance inferInstance ?_ | refine ls_cell rfl inferInstance inferInstance ?_)
    | ((with_reducible refine ck_store ?_); refine ls_store rfl rfl inferInstance inferInstance inferInstance fun _ => ?_)
    | (go_at_call 27; (with_reducible refine (HZ.out _).mono ?_); rintro e w' ⟨rfl, hb'⟩; obtain ⟨_, rfl⟩ := KW.go _ hb'; clear hb')
    | (go_at_call 28; (with_reducible refine (HC.out _).mono ?_); rintro e w' ⟨rfl, hb'⟩; obtain ⟨_, rfl⟩ := KW.go _ hb'; clear hb')
    | (go_at_call 29; (with_reducible refine (HO.out _).mono ?_); rintro e w' ⟨rfl, hb'⟩; obtain ⟨_, rfl⟩ := KW.go _ hb'; clear hb'))
  refine region_mixS [.take 0, .take 1, .take 2, .take 3, .take 4, .take 5, .take 6, .take 7, .sole 8, .take 9] _ (Sub.both (h := Sub.both (h := Sub.both (h := Sub.skip (h := Sub.both (h := Sub.both (h := Sub.both (h := Sub.nil)))))))) (by kernel_rfl) (by kernel_rfl) ?_
  simp only [picksM, Mv.pick, List.filterMap_cons, List.filterMap_nil, List.getElem?_cons_zero, List.getElem?_cons_succ, Option.map_some]
  refine MM.out ?_
  repeat (first
    | ((with_reducible apply mm_load); exact rfl; infer_instance; infer_instance; (try simp only [Act.put, List.setIfInBounds_toArray, List.set_cons_succ, List.set_cons_zero]))
    | ((with_reducible apply mm_cell); exact rfl; infer_instance; infer_instance; (try simp only [Act.put, List.setIfInBounds_toArray, List.set_cons_succ, List.set_cons_zero]))
    | ((with_reducible apply mm_Spot); exact rfl; exact rfl; exact rfl; (try simp only [Act.put, List.setIfInBounds_toArray, List.set_cons_succ, List.set_cons_zero]))
    | ((with_reducible apply mm_callf (f := 30)); (intro _; go_simp; try exact rfl); (with_reducible exact fun _ u => HX.out _); (try simp only [Act.put, List.setIfInBounds_toArray, List.set_cons_succ, List.set_cons_zero]))
    | ((with_reducible apply mo_callf (f := 30)); infer_instance; (intro _; go_simp; try exact rfl); (with_reducible exact fun u => HX.out _); (try simp only [Act.put, List.setIfInBounds_toArray, List.set_cons_succ, List.set_cons_zero]))
    | ((with_reducible apply mm_callf (f := 30)); (intro _; go_simp; try exact rfl); (with_reducible exact fun _ u => HY.out _); (try simp only [Act.put, List.setIfInBounds_toArray, List.set_cons_succ, List.set_cons_zero]))
    | ((with_reducible apply mo_callf (f := 30)); infer_instance; (intro _; go_simp; try exact rfl); (with_reducible exact fun u => HY.out _); (try simp only [Act.put, List.setIfInBounds_toArray, List.set_cons_succ, List.set_cons_zero]))
    | ((with_reducible apply mm_value); (intro _; go_simp; try exact rfl); (try simp only [Act.put, List.setIfInBounds_toArray, List.set_cons_succ, List.set_cons_zero]))
    | ((with_reducible apply mo_store); exact rfl; exact rfl; infer_instance; infer_instance; infer_instance; infer_instance; (try simp only [Act.put, List.setIfInBounds_toArray, List.set_cons_succ, List.set_cons_zero]))
    | ((with_reducible apply mo_put); exact rfl; exact rfl; infer_instance; infer_instance; infer_instance; infer_instance; (try simp only [Act.put, List.setIfInBounds_toArray, List.set_cons_succ, List.set_cons_zero]))
    | ((with_reducible apply mo_alloc); infer_instance; infer_instance; intro _; (try simp only [Act.put, List.setIfInBounds_toArray, List.set_cons_succ, List.set_cons_zero]))
    | ((with_reducible apply mo_three); (decide); (decide); infer_instance; infer_instance; infer_instance; intro _ _ _; (try simp only [Act.put, List.setIfInBounds_toArray, List.set_cons_succ, List.set_cons_zero]))
    | ((with_reducible apply mo_four); (decide); (decide); infer_instance; infer_instance; infer_instance; infer_instance; intro _ _ _ _; (try simp only [Act.put, List.setIfInBounds_toArray, List.set_cons_succ, List.set_cons_zero]))
    | ((with_reducible apply mo_two); infer_instance; infer_instance; (decide); intro _ _; (try simp only [Act.put, List.setIfInBounds_toArray, List.set_cons_succ, List.set_cons_zero]))
    | ((with_reducible apply mo_load); infer_instance; exact rfl; infer_instance; infer_instance; (try simp only [Act.put, List.setIfInBounds_toArray, List.set_cons_succ, List.set_cons_zero]))
    | ((with_reducible apply mo_cell); infer_instance; exact rfl; infer_instance; infer_instance; (try simp only [Act.put, List.setIfInBounds_toArray, List.set_cons_succ, List.set_cons_zero]))
    | ((with_reducible apply mo_value); infer_instance; (intro _; go_simp; try exact rfl); (try simp only [Act.put, List.setIfInBounds_toArray, List.set_cons_succ, List.set_cons_zero])))
  refine mm_nil fun u7 => ?_
  go_wp2_with (fail)
  exact bd_cell_tmp Tryz.results6 rfl rfl inferInstance inferInstance ⟨rfl, KW.below _⟩
set_option maxRecDepth 100000 in
set_option maxHeartbeats 3200000 in
theorem ssmall_any (s : Bool) (n : Nat) (t : Bool) (m d : Nat) (hn : Hid (n < M)) (hm : Hid (m < M)) (hd : Hid (d < M)) (w : World) : Calls Tryz.prog 36 #[spv s n t m d] w (Ret (.bool (smallS n m d)) w) := by
  have HN := Lib.hid (fun w => wlen8_any n hn w)
  have HM := Lib.hid (fun w => wlen8_any m hm w)
  have HD := Lib.hid (fun w => wlen8_any d hd w)
  unfold smallS
  generalize bl n = x at *
  generalize bl m = y at *
  generalize bl d = z at *
  have e1 : decide ((x : Int) ≤ 120) = decide (x ≤ 120) := decide_eq_decide.2 (by omega)
  have e2 : decide ((y : Int) ≤ 120) = decide (y ≤ 120) := decide_eq_decide.2 (by omega)
  have e3 : decide ((z : Int) ≤ 120) = decide (z ≤ 120) := decide_eq_decide.2 (by omega)
  generalize decide (x ≤ 120) = p at *
  generalize decide (y ≤ 120) = q at *
  generalize decide (z ≤ 120) = r at *
  cases p <;> cases q <;> cases r
  all_goals (
    refine enter fun u => ?_
    go_enter Tryz.func36, Tryz.ntmps36
    go_wp2_with (first
      | ((with_reducible refine ls_skip ?_ ?_); (exact rfl); (try simp only [Act.put, List.setIfInBounds_toArray, List.set_cons_succ, List.set_cons_zero]))
      | ((with_reducible refine ck_box ?_); refine list_box rfl fun _ _ => ?_)
      | ((with_reducible refine ck_load ?_); first | refine ls_load rfl inferInstance inferInstance ?_ | refine ls_cell rfl inferInstance inferInstance ?_)
      | ((with_reducible refine ck_gload ?_); first | refine lsg_load rfl rfl inferInstance inferInstance ?_ | refine lsg_cell rfl rfl inferInstance inferInstance ?_)
      | (go_at_call 65; (with_reducible refine (HN.out _).mono ?_); rintro e w' ⟨rfl, hb'⟩; obtain ⟨_, rfl⟩ := KW.go _ hb'; clear hb')
      | (go_at_call 65; (with_reducible refine (HM.out _).mono ?_); rintro e w' ⟨rfl, hb'⟩; obtain ⟨_, rfl⟩ := KW.go _ hb'; clear hb')
      | (go_at_call 65; (with_reducible refine (HD.out _).mono ?_); rintro e w' ⟨rfl, hb'⟩; obtain ⟨_, rfl⟩ := KW.go _ hb'; clear hb'))
    go_ret
    exact ⟨rfl, KW.below _⟩)
set_option maxRecDepth 100000 in
set_option maxHeartbeats 6400000 in
theorem slow_any (s : Bool) (n : Nat) (t : Bool) (m d : Nat) (hn : Hid (n < M)) (hm : Hid (m < M)) (hd : Hid (d < M)) (w : World) : Calls Tryz.prog 37 #[spv s n t m d] w (Ret (.bool (lowB s n t m d)) w) := by
  have HZ := fun w => zero_any d hd.out w
  have HF := fun w => fix_any s n hn w
  have HE := fun w => fix_any t m hm w
  have HC := fun w => common_any n m d hn hm hd w
  have HO : Hid (∀ w, Calls Tryz.prog 31 #[.int .u64 1] w (Ret (wv 1) w)) := Lib.hid (fun w => of_any 1 (Lib.hid (by omega)) w)
  have heq := fun w => eqI_fix s n hn.out w
  have heq' := fun w => eqI_fix t m hm.out w
  have hg : d ≠ 0 → ∀ w, (Op.equalIn 10000 24 (.agg (cells 8 (gS n m d))) (.agg (cells 8 1))).run Tryz.prog w = .ok (eqB (gS n m d) 1) w := fun h w => eqlW1 (gS n m d) (gS_lt (by omega) hd.out) w
  unfold lowB
  by_cases h0 : d = 0
  · subst h0
    rw [show eqB 0 0 = true from eqB_same 0] at *
    clear HF HE HC heq heq' hg HO
    replace HZ := Lib.hid HZ
    refine enter fun u => ?_
    go_enter Tryz.func37, Tryz.ntmps37
    go_wp2_with (first
      | ((with_reducible refine ls_skip ?_ ?_); (exact rfl); (try simp only [Act.put, List.setIfInBounds_toArray, List.set_cons_succ, List.set_cons_zero]))
      | ((with_reducible refine ck_box ?_); refine list_box rfl fun _ _ => ?_))
    refine region (by kernel_rfl) (by kernel_rfl) fun _ => ?_
    refine QQ.out ?_
    repeat (first
      | ((with_reducible apply qq_skip); (exact rfl); (try simp only [Act.put, List.setIfInBounds_toArray, List.set_cons_succ, List.set_cons_zero]))
      | ((with_reducible apply qq_load); exact rfl; infer_instance; infer_instance; exact rfl; (try simp only [Act.put, List.setIfInBounds_toArray, List.set_cons_succ, List.set_cons_zero]))
      | ((with_reducible apply qq_cell); exact rfl; infer_instance; infer_instance; exact rfl; (try simp only [Act.put, List.setIfInBounds_toArray, List.set_cons_succ, List.set_cons_zero]))
      | ((with_reducible apply qq_callf (f := 27)); (intro _; go_simp; try exact rfl); (with_reducible exact fun u => HZ.out _); exact rfl; (try simp only [Act.put, List.setIfInBounds_toArray, List.set_cons_succ, List.set_cons_zero]))
      | ((with_reducible apply qq_value); (intro _; go_simp; try exact rfl); exact rfl; (try simp only [Act.put, List.setIfInBounds_toArray, List.set_cons_succ, List.set_cons_zero])))
    refine qq_nil ?_
    rintro _ ⟨u7, rfl⟩
    go_wp2_with (fail)
    go_ret
    exact ⟨rfl, KW.below _⟩
  · replace hg := hg h0
    rw [show eqB d 0 = false from decide_eq_false h0] at *
    clear h0
    unfold nv at HF HE
    generalize gS n m d = g at *
    generalize eqB g 1 = b4 at *
    generalize decide ((s && !eqB n 0) = s) = b2 at *
    generalize decide ((t && !eqB m 0) = t) = b3 at *
    generalize ng (sg s n) = p at *
    generalize (sg s n).natAbs = a at *
    generalize ng (sg t m) = q at *
    generalize (sg t m).natAbs = b at *
    replace HZ := Lib.hid HZ
    replace HF := Lib.hid HF
    replace HE := Lib.hid HE
    replace HC := Lib.hid HC
    cases b2 <;> cases b3
    all_goals (
      refine enter fun u => ?_
      go_enter Tryz.func37, Tryz.ntmps37
      go_wp2_with (first
        | ((with_reducible refine ls_skip ?_ ?_); (exact rfl); (try simp only [Act.put, List.setIfInBounds_toArray, List.set_cons_succ, List.set_cons_zero]))
        | ((with_reducible refine ck_box ?_); refine list_box rfl fun _ _ => ?_))
      refine region (by kernel_rfl) (by kernel_rfl) fun _ => ?_
      refine QQ.out ?_
      repeat (first
        | ((with_reducible apply qq_skip); (exact rfl); (try simp only [Act.put, List.setIfInBounds_toArray, List.set_cons_succ, List.set_cons_zero]))
        | ((with_reducible apply qq_load); exact rfl; infer_instance; infer_instance; exact rfl; (try simp only [Act.put, List.setIfInBounds_toArray, List.set_cons_succ, List.set_cons_zero]))
        | ((with_reducible apply qq_cell); exact rfl; infer_instance; infer_instance; exact rfl; (try simp only [Act.put, List.setIfInBounds_toArray, List.set_cons_succ, List.set_cons_zero]))
        | ((with_reducible apply qq_callf (f := 27)); (intro _; go_simp; try exact rfl); (with_reducible exact fun u => HZ.out _); exact rfl; (try simp only [Act.put, List.setIfInBounds_toArray, List.set_cons_succ, List.set_cons_zero]))
        | ((with_reducible apply qq_callf (f := 66)); (intro _; go_simp; try exact rfl); (with_reducible exact fun u => HF.out _); exact rfl; (try simp only [Act.put, List.setIfInBounds_toArray, List.set_cons_succ, List.set_cons_zero]))
        | ((with_reducible apply qq_callf (f := 66)); (intro _; go_simp; try exact rfl); (with_reducible exact fun u => HE.out _); exact rfl; (try simp only [Act.put, List.setIfInBounds_toArray, List.set_cons_succ, List.set_cons_zero]))
        | ((with_reducible apply qq_callf (f := 28)); (intro _; go_simp; try exact rfl); (with_reducible exact fun u => HC.out _); exact rfl; (try simp only [Act.put, List.setIfInBounds_toArray, List.set_cons_succ, List.set_cons_zero]))
        | ((with_reducible apply qq_callf (f := 31)); (intro _; go_simp; try exact rfl); (with_reducible exact fun u => HO.out _); exact rfl; (try simp only [Act.put, List.setIfInBounds_toArray, List.set_cons_succ, List.set_cons_zero]))
        | ((with_reducible apply qq_value); (intro _; go_simp; try exact rfl); exact rfl; (try simp only [Act.put, List.setIfInBounds_toArray, List.set_cons_succ, List.set_cons_zero])))
      refine qq_nil ?_
      rintro _ ⟨u7, rfl⟩
      go_wp2_with (fail)
      go_ret
      exact ⟨rfl, KW.below _⟩)
set_option maxRecDepth 100000 in
set_option maxHeartbeats 3200000 in
theorem smay_any (s : Bool) (n : Nat) (t : Bool) (m d : Nat) (hn : Hid (n < M)) (hm : Hid (m < M)) (hd : Hid (d < M)) (w : World) : Calls Tryz.prog 11 #[spv s n t m d] w (Ret (.bool (mayS s n t m d)) w) := by
  have HS := fun w => ssmall_any s n t m d hn hm hd w
  have HL := Lib.hid (fun w => slow_any s n t m d hn hm hd w)
  unfold mayS
  generalize smallS n m d = p at *
  generalize lowB s n t m d = q at *
  replace HS := Lib.hid HS
  cases p
  all_goals (
    refine enter fun u => ?_
    go_enter Tryz.func11, Tryz.ntmps11
    go_wp2_with (first
      | ((with_reducible refine ls_skip ?_ ?_); (exact rfl); (try simp only [Act.put, List.setIfInBounds_toArray, List.set_cons_succ, List.set_cons_zero]))
      | ((with_reducible refine ck_box ?_); refine list_box rfl fun _ _ => ?_)
      | ((with_reducible refine ck_load ?_); first | refine ls_load rfl inferInstance inferInstance ?_ | refine ls_cell rfl inferInstance inferInstance ?_)
      | ((with_reducible refine ck_gload ?_); first | refine lsg_load rfl rfl inferInstance inferInstance ?_ | refine lsg_cell rfl rfl inferInstance inferInstance ?_)
      | (go_at_call 36; (with_reducible refine (HS.out _).mono ?_); rintro e w' ⟨rfl, hb'⟩; obtain ⟨_, rfl⟩ := KW.go _ hb'; clear hb')
      | (go_at_call 37; (with_reducible refine (HL.out _).mono ?_); rintro e w' ⟨rfl, hb'⟩; obtain ⟨_, rfl⟩ := KW.go _ hb'; clear hb'))
    go_ret
    exact ⟨rfl, KW.below _⟩)
set_option maxRecDepth 100000 in
set_option maxHeartbeats 3200000 in
theorem sat_any (x y : Int) (hx1 : -9223372036854775808 ≤ x) (hx2 : x ≤ 9223372036854775807) (hy1 : -9223372036854775808 ≤ y) (hy2 : y ≤ 9223372036854775807) (w : World) : Calls Tryz.prog 8 #[ptv x y] w (Ret (zsv x y 1) w) := by
  have HX := fun w => sof_any x hx1 hx2 w
  have HY := fun w => sof_any y hy1 hy2 w
  have HO : Hid (∀ w, Calls Tryz.prog 31 #[.int .u64 1] w (Ret (wv 1) w)) := Lib.hid (fun w => of_any 1 (Lib.hid (by omega)) w)
  unfold nv at HX HY
  unfold zsv
  generalize ng x = p at *
  generalize ng y = q at *
  generalize x.natAbs = a at *
  generalize y.natAbs = b at *
  replace HX := Lib.hid HX
  replace HY := Lib.hid HY
  clear hx1 hx2 hy1 hy2
  refine enter fun u => ?_
  go_enter Tryz.func8, Tryz.ntmps8
  go_wp2_with (first
    | ((with_reducible refine ls_skip ?_ ?_); (exact rfl); (try simp only [Act.put, List.setIfInBounds_toArray, List.set_cons_succ, List.set_cons_zero]))
    | ((with_reducible refine ck_box ?_); refine list_box rfl fun _ _ => ?_)
    | ((with_reducible refine ck_alloc ?_); refine ls_alloc inferInstance fun _ _ => ?_))
  refine region_mixS [.take 0, .take 1, .take 2, .take 3, .take 4, .take 5, .take 6, .take 7, .sole 8] _ (Sub.skip (h := Sub.both (h := Sub.nil))) (by kernel_rfl) (by kernel_rfl) ?_
  simp only [picksM, Mv.pick, List.filterMap_cons, List.filterMap_nil, List.getElem?_cons_zero, List.getElem?_cons_succ, Option.map_some]
  refine MM.out ?_
  repeat (first
    | ((with_reducible apply mm_load); exact rfl; infer_instance; infer_instance; (try simp only [Act.put, List.setIfInBounds_toArray, List.set_cons_succ, List.set_cons_zero]))
    | ((with_reducible apply mm_cell); exact rfl; infer_instance; infer_instance; (try simp only [Act.put, List.setIfInBounds_toArray, List.set_cons_succ, List.set_cons_zero]))
    | ((with_reducible apply mm_Spot); exact rfl; exact rfl; exact rfl; (try simp only [Act.put, List.setIfInBounds_toArray, List.set_cons_succ, List.set_cons_zero]))
    | ((with_reducible apply mm_callf (f := 34)); (intro _; go_simp; try exact rfl); (with_reducible exact fun _ u => HX.out _); (try simp only [Act.put, List.setIfInBounds_toArray, List.set_cons_succ, List.set_cons_zero]))
    | ((with_reducible apply mo_callf (f := 34)); infer_instance; (intro _; go_simp; try exact rfl); (with_reducible exact fun u => HX.out _); (try simp only [Act.put, List.setIfInBounds_toArray, List.set_cons_succ, List.set_cons_zero]))
    | ((with_reducible apply mm_callf (f := 34)); (intro _; go_simp; try exact rfl); (with_reducible exact fun _ u => HY.out _); (try simp only [Act.put, List.setIfInBounds_toArray, List.set_cons_succ, List.set_cons_zero]))
    | ((with_reducible apply mo_callf (f := 34)); infer_instance; (intro _; go_simp; try exact rfl); (with_reducible exact fun u => HY.out _); (try simp only [Act.put, List.setIfInBounds_toArray, List.set_cons_succ, List.set_cons_zero]))
    | ((with_reducible apply mm_callf (f := 31)); (intro _; go_simp; try exact rfl); (with_reducible exact fun _ u => HO.out _); (try simp only [Act.put, List.setIfInBounds_toArray, List.set_cons_succ, List.set_cons_zero]))
    | ((with_reducible apply mo_callf (f := 31)); infer_instance; (intro _; go_simp; try exact rfl); (with_reducible exact fun u => HO.out _); (try simp only [Act.put, List.setIfInBounds_toArray, List.set_cons_succ, List.set_cons_zero]))
    | ((with_reducible apply mm_value); (intro _; go_simp; try exact rfl); (try simp only [Act.put, List.setIfInBounds_toArray, List.set_cons_succ, List.set_cons_zero]))
    | ((with_reducible apply mo_store); exact rfl; exact rfl; infer_instance; infer_instance; infer_instance; infer_instance; (try simp only [Act.put, List.setIfInBounds_toArray, List.set_cons_succ, List.set_cons_zero]))
    | ((with_reducible apply mo_put); exact rfl; exact rfl; infer_instance; infer_instance; infer_instance; infer_instance; (try simp only [Act.put, List.setIfInBounds_toArray, List.set_cons_succ, List.set_cons_zero]))
    | ((with_reducible apply mo_alloc); infer_instance; infer_instance; intro _; (try simp only [Act.put, List.setIfInBounds_toArray, List.set_cons_succ, List.set_cons_zero]))
    | ((with_reducible apply mo_three); (decide); (decide); infer_instance; infer_instance; infer_instance; intro _ _ _; (try simp only [Act.put, List.setIfInBounds_toArray, List.set_cons_succ, List.set_cons_zero]))
    | ((with_reducible apply mo_four); (decide); (decide); infer_instance; infer_instance; infer_instance; infer_instance; intro _ _ _ _; (try simp only [Act.put, List.setIfInBounds_toArray, List.set_cons_succ, List.set_cons_zero]))
    | ((with_reducible apply mo_two); infer_instance; infer_instance; (decide); intro _ _; (try simp only [Act.put, List.setIfInBounds_toArray, List.set_cons_succ, List.set_cons_zero]))
    | ((with_reducible apply mo_load); infer_instance; exact rfl; infer_instance; infer_instance; (try simp only [Act.put, List.setIfInBounds_toArray, List.set_cons_succ, List.set_cons_zero]))
    | ((with_reducible apply mo_cell); infer_instance; exact rfl; infer_instance; infer_instance; (try simp only [Act.put, List.setIfInBounds_toArray, List.set_cons_succ, List.set_cons_zero]))
    | ((with_reducible apply mo_value); infer_instance; (intro _; go_simp; try exact rfl); (try simp only [Act.put, List.setIfInBounds_toArray, List.set_cons_succ, List.set_cons_zero])))
  refine mm_nil fun u7 => ?_
  go_wp2_with (fail)
  exact bd_cell Tryz.results8 rfl inferInstance inferInstance ⟨rfl, KW.below _⟩
set_option maxRecDepth 100000 in
set_option maxHeartbeats 3200000 in
theorem stimes_any (s : Bool) (n d : Nat) (hn : Hid (n < M)) (hd : Hid (d < M)) (hf : n * d < M) (w : World) : Calls Tryz.prog 74 #[iv s n, wv d] w (Ret (nv (sg s n * d)) w) := by
  have HM := fun w => smul_any s false n d hn hd w
  rw [sg_f, fv_fit (by rw [Int.natAbs_mul, sg_abs, Int.natAbs_natCast]; exact hf)] at HM
  unfold nv at *
  generalize ng (sg s n * d) = p at *
  generalize (sg s n * d).natAbs = m at *
  replace HM := Lib.hid HM
  clear hf
  refine enter fun u => ?_
  go_enter Tryz.func74, Tryz.ntmps74
  go_wp2_with (first
    | ((with_reducible refine ls_skip ?_ ?_); (exact rfl); (try simp only [Act.put, List.setIfInBounds_toArray, List.set_cons_succ, List.set_cons_zero]))
    | ((with_reducible refine ck_box ?_); refine list_box rfl fun _ _ => ?_)
    | ((with_reducible refine ck_alloc ?_); refine ls_alloc inferInstance fun _ _ => ?_)
    | ((with_reducible refine ck_load ?_); first | refine ls_load rfl inferInstance inferInstance ?_ | refine ls_cell rfl inferInstance inferInstance ?_)
    | ((with_reducible refine ck_store ?_); refine ls_store rfl rfl inferInstance inferInstance inferInstance fun _ => ?_)
    | ((with_reducible refine ck_build (t := 26) (xs := #[(1, _)]) ?_); refine ls_I1 rfl ?_)
    | (go_at_call 79; (with_reducible refine (HM.out _).mono ?_); rintro e w' ⟨rfl, hb'⟩; obtain ⟨_, rfl⟩ := KW.go _ hb'; clear hb'))
  exact bd_cell Tryz.results74 rfl inferInstance inferInstance ⟨rfl, KW.below _⟩
end Go.Proofs.YtacicfmalhhceaaGreatDoor.SpW
