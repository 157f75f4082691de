/-
  The walk of the law QuotGcd.
-/
import Derived.Test.YtiklebonkpjlpaaDoorQuotLaws
namespace Go.Proofs.YtiklebonkpjlpaaDoor.QuotW
open Go.RowKit
open DigM WideM WideV KM DigW WideW QuotM DecM FmtW
theorem gcd_parts (a b : Nat) (ha : Hid (a < M)) (hb : Hid (b < M)) : ∃ g : Nat, Nat.gcd a b = g ∧ Hid (g < M) ∧ Hid (∀ w, Calls Tryd.prog 12 #[wv a, wv b] w (Ret (wv g) w)) ∧ Hid (∀ w, Calls Tryd.prog 12 #[wv b, wv a] w (Ret (wv g) w)) ∧
    Hid (∀ w, Calls Tryd.prog 13 #[wv a, wv b] w (Ret (wv g) w)) := by
  refine ⟨Nat.gcd a b, rfl, Lib.hid ?_, Lib.hid fun w => gcd_any a b ha hb w, Lib.hid fun w => ?_, Lib.hid fun w => refGcd_any a b ha hb w⟩
  · rcases Nat.eq_zero_or_pos a with h | h
    · rw [h, Nat.gcd_zero_left]; exact hb.out
    · exact Nat.lt_of_le_of_lt (Nat.gcd_le_left b h) ha.out
  · rw [Nat.gcd_comm]; exact gcd_any b a hb ha w
set_option maxRecDepth 100000 in
set_option maxHeartbeats 6400000 in
theorem quotGcd_0 (c : Nat) (w : World) (ht : Tab w) : Calls Tryd.prog 4 #[wv 0, wv 0, wv c] w (TrueAt4 w) := by
  obtain ⟨g, hg, HM, HG1, HG2, HR⟩ := gcd_parts 0 0 (Lib.hid M_pos) (Lib.hid M_pos)
  obtain rfl : g = 0 := by rw [← hg]; rfl
  clear hg
  have HA := Lib.hid (fun w (ht : Tab w) => awake4_any w ht)
  have HT := Lib.hid ht
  have h0 := nought
  clear ht
  refine enter fun u => ?_
  go_enter Tryd.func4, Tryd.ntmps4
  go_wp2_with (first
    | ((with_reducible apply list_box); exact rfl; intro _ _)
    | ((with_reducible apply list_alloc); exact zeroW; intro _ _)
    | ((with_reducible apply lst_load); exact rfl; infer_instance; exact rowW; exact cells_size _ _)
    | ((with_reducible apply lst_store); exact rfl; exact rfl; infer_instance; exact rowW; exact cells_size _ _; exact cells_size _ _; exact cells_one _ _; intro _)
    | (go_at_call 12; (with_reducible refine (HG1.out _).mono ?_); rintro e w' ⟨rfl, hb'⟩; obtain ⟨_, rfl⟩ := KW.go _ hb'; clear hb'))
  simp only [Act.put, List.setIfInBounds_toArray, List.set_cons_succ, List.set_cons_zero]
  refine region (by kernel_rfl) (by kernel_rfl) fun _ => ?_
  repeat (go_big_quiet_step (first | (with_reducible exact call HR.out _) | (with_reducible exact call HG2.out _)))
  refine wpQuiet_nil ?_
  rintro _ ⟨u2, rfl⟩
  go_wp2_with (first
    | ((with_reducible apply list_box); exact rfl; intro _ _)
    | ((with_reducible apply list_alloc); exact zeroW; intro _ _)
    | ((with_reducible apply lst_load); exact rfl; infer_instance; exact rowW; exact cells_size _ _)
    | ((with_reducible apply lst_store); exact rfl; exact rfl; infer_instance; exact rowW; exact cells_size _ _; exact cells_size _ _; exact cells_one _ _; intro _)
    | (go_at_call 7; (with_reducible refine (HA.out _ (HT.out.later (KW.below _) (Nat.le_refl _))).mono ?_); rintro e w' ⟨rfl, hb'⟩; obtain ⟨_, rfl⟩ := KW.go _ hb'; clear hb'))
  go_ret
  exact ⟨rfl, KW.below _⟩
set_option maxRecDepth 100000 in
set_option maxHeartbeats 6400000 in
theorem quotGcd_1 (a b : Nat) (ha : Hid (a < M)) (hb : Hid (b < M)) (hgp : 0 < Nat.gcd a b) (w : World) (ht : Tab w) : Calls Tryd.prog 4 #[wv a, wv b, wv 0] w (TrueAt4 w) := by
  obtain ⟨g, hg, HM, HG1, HG2, HR⟩ := gcd_parts a b ha hb
  rw [hg] at hgp
  have hgz : ¬ g = 0 := by omega
  have heq := eqF g HM.out hgz
  have hdA : a % g = 0 := by rw [← hg]; exact Nat.mod_eq_zero_of_dvd (Nat.gcd_dvd_left a b)
  have hdB : b % g = 0 := by rw [← hg]; exact Nat.mod_eq_zero_of_dvd (Nat.gcd_dvd_right a b)
  have HO1 := fun w => over_some a g ha HM hgp w
  have HO2 := fun w => over_some b g hb HM hgp w
  rw [hdA] at HO1
  rw [hdB] at HO2
  have H1 := Lib.hid HO1
  have H2 := Lib.hid HO2
  generalize a / g = q1 at *
  generalize b / g = q2 at *
  have H3 := Lib.hid (fun w => over_zero a w)
  have H4 := Lib.hid (fun w => over_zero b w)
  clear HO1 HO2 hdA hdB hg hgz hgp
  have HA := Lib.hid (fun w (ht : Tab w) => awake4_any w ht)
  have HT := Lib.hid ht
  have h0 := nought
  clear ht
  refine enter fun u => ?_
  go_enter Tryd.func4, Tryd.ntmps4
  go_wp2_with (first
    | ((with_reducible apply list_box); exact rfl; intro _ _)
    | ((with_reducible apply list_alloc); exact zeroW; intro _ _)
    | ((with_reducible apply lst_load); exact rfl; infer_instance; exact rowW; exact cells_size _ _)
    | ((with_reducible apply lst_store); exact rfl; exact rfl; infer_instance; exact rowW; exact cells_size _ _; exact cells_size _ _; exact cells_one _ _; intro _)
    | (go_at_call 12; (with_reducible refine (HG1.out _).mono ?_); rintro e w' ⟨rfl, hb'⟩; obtain ⟨_, rfl⟩ := KW.go _ hb'; clear hb'))
  simp only [Act.put, List.setIfInBounds_toArray, List.set_cons_succ, List.set_cons_zero]
  refine region (by kernel_rfl) (by kernel_rfl) fun _ => ?_
  repeat (go_big_quiet_step (first | (with_reducible exact call HR.out _) | (with_reducible exact call HG2.out _)))
  refine wpQuiet_nil ?_
  rintro _ ⟨u2, rfl⟩
  go_wp2_with (first
    | ((with_reducible apply list_box); exact rfl; intro _ _)
    | ((with_reducible apply list_alloc); exact zeroW; intro _ _)
    | ((with_reducible apply lst_load); exact rfl; infer_instance; exact rowW; exact cells_size _ _)
    | ((with_reducible apply lst_store); exact rfl; exact rfl; infer_instance; exact rowW; exact cells_size _ _; exact cells_size _ _; exact cells_one _ _; intro _)
    | (go_at_call 6; (with_reducible refine (H1.out _).mono ?_); rintro e w' ⟨rfl, hb'⟩; obtain ⟨_, rfl⟩ := KW.go _ hb'; clear hb')
    | (go_at_call 6; (with_reducible refine (H2.out _).mono ?_); rintro e w' ⟨rfl, hb'⟩; obtain ⟨_, rfl⟩ := KW.go _ hb'; clear hb')
    | (go_at_call 6; (with_reducible refine (H3.out _).mono ?_); rintro e w' ⟨rfl, hb'⟩; obtain ⟨_, rfl⟩ := KW.go _ hb'; clear hb')
    | (go_at_call 6; (with_reducible refine (H4.out _).mono ?_); rintro e w' ⟨rfl, hb'⟩; obtain ⟨_, rfl⟩ := KW.go _ hb'; clear hb')
    | (go_at_call 7; (with_reducible refine (HA.out _ (HT.out.later (KW.below _) (Nat.le_refl _))).mono ?_); rintro e w' ⟨rfl, hb'⟩; obtain ⟨_, rfl⟩ := KW.go _ hb'; clear hb'))
  go_ret
  exact ⟨rfl, KW.below _⟩
set_option maxRecDepth 100000 in
set_option maxHeartbeats 6400000 in
theorem quotGcd_2 (a b c : Nat) (ha : Hid (a < M)) (hb : Hid (b < M)) (hc : Hid (c < M)) (hgp : 0 < Nat.gcd a b) (hcp : 0 < c) (h1 : ¬ a % c = 0) (w : World) (ht : Tab w) : Calls Tryd.prog 4 #[wv a, wv b, wv c] w (TrueAt4 w) := by
  obtain ⟨g, hg, HM, HG1, HG2, HR⟩ := gcd_parts a b ha hb
  rw [hg] at hgp
  have hgz : ¬ g = 0 := by omega
  have heq := eqF g HM.out hgz
  have hdA : a % g = 0 := by rw [← hg]; exact Nat.mod_eq_zero_of_dvd (Nat.gcd_dvd_left a b)
  have hdB : b % g = 0 := by rw [← hg]; exact Nat.mod_eq_zero_of_dvd (Nat.gcd_dvd_right a b)
  have HO1 := fun w => over_some a g ha HM hgp w
  have HO2 := fun w => over_some b g hb HM hgp w
  rw [hdA] at HO1
  rw [hdB] at HO2
  have H1 := Lib.hid HO1
  have H2 := Lib.hid HO2
  generalize a / g = q1 at *
  generalize b / g = q2 at *
  have H3 := Lib.hid (fun w => over_some a c ha hc hcp w)
  have H4 := Lib.hid (fun w => over_some b c hb hc hcp w)
  have hu := Nat.lt_trans (Nat.mod_lt a hcp) hc.out
  have hv := Nat.lt_trans (Nat.mod_lt b hcp) hc.out
  have heq2 := eqF (a % c) hu h1
  generalize a / c = q3 at *
  generalize b / c = q4 at *
  generalize a % c = r3 at *
  generalize b % c = r4 at *
  clear HO1 HO2 hdA hdB hg hgz hgp hu hv h1 hcp
  have HA := Lib.hid (fun w (ht : Tab w) => awake4_any w ht)
  have HT := Lib.hid ht
  have h0 := nought
  clear ht
  refine enter fun u => ?_
  go_enter Tryd.func4, Tryd.ntmps4
  go_wp2_with (first
    | ((with_reducible apply list_box); exact rfl; intro _ _)
    | ((with_reducible apply list_alloc); exact zeroW; intro _ _)
    | ((with_reducible apply lst_load); exact rfl; infer_instance; exact rowW; exact cells_size _ _)
    | ((with_reducible apply lst_store); exact rfl; exact rfl; infer_instance; exact rowW; exact cells_size _ _; exact cells_size _ _; exact cells_one _ _; intro _)
    | (go_at_call 12; (with_reducible refine (HG1.out _).mono ?_); rintro e w' ⟨rfl, hb'⟩; obtain ⟨_, rfl⟩ := KW.go _ hb'; clear hb'))
  simp only [Act.put, List.setIfInBounds_toArray, List.set_cons_succ, List.set_cons_zero]
  refine region (by kernel_rfl) (by kernel_rfl) fun _ => ?_
  repeat (go_big_quiet_step (first | (with_reducible exact call HR.out _) | (with_reducible exact call HG2.out _)))
  refine wpQuiet_nil ?_
  rintro _ ⟨u2, rfl⟩
  go_wp2_with (first
    | ((with_reducible apply list_box); exact rfl; intro _ _)
    | ((with_reducible apply list_alloc); exact zeroW; intro _ _)
    | ((with_reducible apply lst_load); exact rfl; infer_instance; exact rowW; exact cells_size _ _)
    | ((with_reducible apply lst_store); exact rfl; exact rfl; infer_instance; exact rowW; exact cells_size _ _; exact cells_size _ _; exact cells_one _ _; intro _)
    | (go_at_call 6; (with_reducible refine (H1.out _).mono ?_); rintro e w' ⟨rfl, hb'⟩; obtain ⟨_, rfl⟩ := KW.go _ hb'; clear hb')
    | (go_at_call 6; (with_reducible refine (H2.out _).mono ?_); rintro e w' ⟨rfl, hb'⟩; obtain ⟨_, rfl⟩ := KW.go _ hb'; clear hb')
    | (go_at_call 6; (with_reducible refine (H3.out _).mono ?_); rintro e w' ⟨rfl, hb'⟩; obtain ⟨_, rfl⟩ := KW.go _ hb'; clear hb')
    | (go_at_call 6; (with_reducible refine (H4.out _).mono ?_); rintro e w' ⟨rfl, hb'⟩; obtain ⟨_, rfl⟩ := KW.go _ hb'; clear hb')
    | (go_at_call 7; (with_reducible refine (HA.out _ (HT.out.later (KW.below _) (Nat.le_refl _))).mono ?_); rintro e w' ⟨rfl, hb'⟩; obtain ⟨_, rfl⟩ := KW.go _ hb'; clear hb'))
  go_ret
  exact ⟨rfl, KW.below _⟩
set_option maxRecDepth 100000 in
set_option maxHeartbeats 6400000 in
theorem quotGcd_3 (a b c : Nat) (ha : Hid (a < M)) (hb : Hid (b < M)) (hc : Hid (c < M)) (hgp : 0 < Nat.gcd a b) (hcp : 0 < c) (h1 : a % c = 0) (h2 : ¬ b % c = 0) (w : World) (ht : Tab w) : Calls Tryd.prog 4 #[wv a, wv b, wv c] w (TrueAt4 w) := by
  obtain ⟨g, hg, HM, HG1, HG2, HR⟩ := gcd_parts a b ha hb
  rw [hg] at hgp
  have hgz : ¬ g = 0 := by omega
  have heq := eqF g HM.out hgz
  have hdA : a % g = 0 := by rw [← hg]; exact Nat.mod_eq_zero_of_dvd (Nat.gcd_dvd_left a b)
  have hdB : b % g = 0 := by rw [← hg]; exact Nat.mod_eq_zero_of_dvd (Nat.gcd_dvd_right a b)
  have HO1 := fun w => over_some a g ha HM hgp w
  have HO2 := fun w => over_some b g hb HM hgp w
  rw [hdA] at HO1
  rw [hdB] at HO2
  have H1 := Lib.hid HO1
  have H2 := Lib.hid HO2
  generalize a / g = q1 at *
  generalize b / g = q2 at *
  have H3 := Lib.hid (fun w => over_some a c ha hc hcp w)
  have H4 := Lib.hid (fun w => over_some b c hb hc hcp w)
  have hu := Nat.lt_trans (Nat.mod_lt a hcp) hc.out
  have hv := Nat.lt_trans (Nat.mod_lt b hcp) hc.out
  have heq2 := eqF (b % c) hv h2
  rw [h1] at H3
  generalize a / c = q3 at *
  generalize b / c = q4 at *
  generalize b % c = r4 at *
  clear HO1 HO2 hdA hdB hg hgz hgp hu hv h1 h2 hcp
  have HA := Lib.hid (fun w (ht : Tab w) => awake4_any w ht)
  have HT := Lib.hid ht
  have h0 := nought
  clear ht
  refine enter fun u => ?_
  go_enter Tryd.func4, Tryd.ntmps4
  go_wp2_with (first
    | ((with_reducible apply list_box); exact rfl; intro _ _)
    | ((with_reducible apply list_alloc); exact zeroW; intro _ _)
    | ((with_reducible apply lst_load); exact rfl; infer_instance; exact rowW; exact cells_size _ _)
    | ((with_reducible apply lst_store); exact rfl; exact rfl; infer_instance; exact rowW; exact cells_size _ _; exact cells_size _ _; exact cells_one _ _; intro _)
    | (go_at_call 12; (with_reducible refine (HG1.out _).mono ?_); rintro e w' ⟨rfl, hb'⟩; obtain ⟨_, rfl⟩ := KW.go _ hb'; clear hb'))
  simp only [Act.put, List.setIfInBounds_toArray, List.set_cons_succ, List.set_cons_zero]
  refine region (by kernel_rfl) (by kernel_rfl) fun _ => ?_
  repeat (go_big_quiet_step (first | (with_reducible exact call HR.out _) | (with_reducible exact call HG2.out _)))
  refine wpQuiet_nil ?_
  rintro _ ⟨u2, rfl⟩
  go_wp2_with (first
    | ((with_reducible apply list_box); exact rfl; intro _ _)
    | ((with_reducible apply list_alloc); exact zeroW; intro _ _)
    | ((with_reducible apply lst_load); exact rfl; infer_instance; exact rowW; exact cells_size _ _)
    | ((with_reducible apply lst_store); exact rfl; exact rfl; infer_instance; exact rowW; exact cells_size _ _; exact cells_size _ _; exact cells_one _ _; intro _)
    | (go_at_call 6; (with_reducible refine (H1.out _).mono ?_); rintro e w' ⟨rfl, hb'⟩; obtain ⟨_, rfl⟩ := KW.go _ hb'; clear hb')
    | (go_at_call 6; (with_reducible refine (H2.out _).mono ?_); rintro e w' ⟨rfl, hb'⟩; obtain ⟨_, rfl⟩ := KW.go _ hb'; clear hb')
    | (go_at_call 6; (with_reducible refine (H3.out _).mono ?_); rintro e w' ⟨rfl, hb'⟩; obtain ⟨_, rfl⟩ := KW.go _ hb'; clear hb')
    | (go_at_call 6; (with_reducible refine (H4.out _).mono ?_); rintro e w' ⟨rfl, hb'⟩; obtain ⟨_, rfl⟩ := KW.go _ hb'; clear hb')
    | (go_at_call 7; (with_reducible refine (HA.out _ (HT.out.later (KW.below _) (Nat.le_refl _))).mono ?_); rintro e w' ⟨rfl, hb'⟩; obtain ⟨_, rfl⟩ := KW.go _ hb'; clear hb'))
  go_ret
  exact ⟨rfl, KW.below _⟩
set_option maxRecDepth 100000 in
set_option maxHeartbeats 6400000 in
theorem quotGcd_4 (a b c : Nat) (ha : Hid (a < M)) (hb : Hid (b < M)) (hc : Hid (c < M)) (hgp : 0 < Nat.gcd a b) (hcp : 0 < c) (h1 : a % c = 0) (h2 : b % c = 0) (w : World) (ht : Tab w) : Calls Tryd.prog 4 #[wv a, wv b, wv c] w (TrueAt4 w) := by
  obtain ⟨g, hg, HM, HG1, HG2, HR⟩ := gcd_parts a b ha hb
  rw [hg] at hgp
  have hgz : ¬ g = 0 := by omega
  have heq := eqF g HM.out hgz
  have hdA : a % g = 0 := by rw [← hg]; exact Nat.mod_eq_zero_of_dvd (Nat.gcd_dvd_left a b)
  have hdB : b % g = 0 := by rw [← hg]; exact Nat.mod_eq_zero_of_dvd (Nat.gcd_dvd_right a b)
  have HO1 := fun w => over_some a g ha HM hgp w
  have HO2 := fun w => over_some b g hb HM hgp w
  rw [hdA] at HO1
  rw [hdB] at HO2
  have H1 := Lib.hid HO1
  have H2 := Lib.hid HO2
  generalize a / g = q1 at *
  generalize b / g = q2 at *
  have H3 := Lib.hid (fun w => over_some a c ha hc hcp w)
  have H4 := Lib.hid (fun w => over_some b c hb hc hcp w)
  have hu := Nat.lt_trans (Nat.mod_lt a hcp) hc.out
  have hv := Nat.lt_trans (Nat.mod_lt b hcp) hc.out
  have H5 := fun w => over_some g c HM hc hcp w
  rw [show g % c = 0 by rw [← hg]; exact Nat.mod_eq_zero_of_dvd (Nat.dvd_gcd (Nat.dvd_of_mod_eq_zero h1) (Nat.dvd_of_mod_eq_zero h2))] at H5
  have H5 := Lib.hid H5
  rw [h1] at H3
  rw [h2] at H4
  generalize a / c = q3 at *
  generalize b / c = q4 at *
  generalize g / c = q5 at *
  clear HO1 HO2 hdA hdB hg hgz hgp hu hv h1 h2 hcp
  have HA := Lib.hid (fun w (ht : Tab w) => awake4_any w ht)
  have HT := Lib.hid ht
  have h0 := nought
  clear ht
  refine enter fun u => ?_
  go_enter Tryd.func4, Tryd.ntmps4
  go_wp2_with (first
    | ((with_reducible apply list_box); exact rfl; intro _ _)
    | ((with_reducible apply list_alloc); exact zeroW; intro _ _)
    | ((with_reducible apply lst_load); exact rfl; infer_instance; exact rowW; exact cells_size _ _)
    | ((with_reducible apply lst_store); exact rfl; exact rfl; infer_instance; exact rowW; exact cells_size _ _; exact cells_size _ _; exact cells_one _ _; intro _)
    | (go_at_call 12; (with_reducible refine (HG1.out _).mono ?_); rintro e w' ⟨rfl, hb'⟩; obtain ⟨_, rfl⟩ := KW.go _ hb'; clear hb'))
  simp only [Act.put, List.setIfInBounds_toArray, List.set_cons_succ, List.set_cons_zero]
  refine region (by kernel_rfl) (by kernel_rfl) fun _ => ?_
  repeat (go_big_quiet_step (first | (with_reducible exact call HR.out _) | (with_reducible exact call HG2.out _)))
  refine wpQuiet_nil ?_
  rintro _ ⟨u2, rfl⟩
  go_wp2_with (first
    | ((with_reducible apply list_box); exact rfl; intro _ _)
    | ((with_reducible apply list_alloc); exact zeroW; intro _ _)
    | ((with_reducible apply lst_load); exact rfl; infer_instance; exact rowW; exact cells_size _ _)
    | ((with_reducible apply lst_store); exact rfl; exact rfl; infer_instance; exact rowW; exact cells_size _ _; exact cells_size _ _; exact cells_one _ _; intro _)
    | (go_at_call 6; (with_reducible refine (H1.out _).mono ?_); rintro e w' ⟨rfl, hb'⟩; obtain ⟨_, rfl⟩ := KW.go _ hb'; clear hb')
    | (go_at_call 6; (with_reducible refine (H2.out _).mono ?_); rintro e w' ⟨rfl, hb'⟩; obtain ⟨_, rfl⟩ := KW.go _ hb'; clear hb')
    | (go_at_call 6; (with_reducible refine (H3.out _).mono ?_); rintro e w' ⟨rfl, hb'⟩; obtain ⟨_, rfl⟩ := KW.go _ hb'; clear hb')
    | (go_at_call 6; (with_reducible refine (H4.out _).mono ?_); rintro e w' ⟨rfl, hb'⟩; obtain ⟨_, rfl⟩ := KW.go _ hb'; clear hb')
    | (go_at_call 6; (with_reducible refine (H5.out _).mono ?_); rintro e w' ⟨rfl, hb'⟩; obtain ⟨_, rfl⟩ := KW.go _ hb'; clear hb')
    | (go_at_call 7; (with_reducible refine (HA.out _ (HT.out.later (KW.below _) (Nat.le_refl _))).mono ?_); rintro e w' ⟨rfl, hb'⟩; obtain ⟨_, rfl⟩ := KW.go _ hb'; clear hb'))
  go_ret
  exact ⟨rfl, KW.below _⟩
theorem quotGcd_walk (a b c : Nat) (ha : Hid (a < M)) (hb : Hid (b < M)) (hc : Hid (c < M)) (w : World) (ht : Tab w) : Calls Tryd.prog 4 #[wv a, wv b, wv c] w (TrueAt4 w) := by
  by_cases hg : Nat.gcd a b = 0
  · obtain ⟨rfl, rfl⟩ := Nat.gcd_eq_zero_iff.1 hg
    exact quotGcd_0 c w ht
  · have hgp : 0 < Nat.gcd a b := by omega
    by_cases h0 : c = 0
    · subst h0; exact quotGcd_1 a b ha hb hgp w ht
    · have hcp : 0 < c := by omega
      by_cases h1 : a % c = 0
      · by_cases h2 : b % c = 0
        · exact quotGcd_4 a b c ha hb hc hgp hcp h1 h2 w ht
        · exact quotGcd_3 a b c ha hb hc hgp hcp h1 h2 w ht
      · exact quotGcd_2 a b c ha hb hc hgp hcp h1 w ht
end Go.Proofs.YtiklebonkpjlpaaDoor.QuotW
