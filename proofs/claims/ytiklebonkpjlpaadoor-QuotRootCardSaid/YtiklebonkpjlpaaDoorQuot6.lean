/-
  package quot: quotient and rest, for any numbers: contracts over the translation.
-/
import Derived.Test.YtiklebonkpjlpaaDoorQuot5
import Derived.Test.YtiklebonkpjlpaaDoorWide4
import Derived.Test.YtiklebonkpjlpaaDoorReads
namespace Go.Proofs.YtiklebonkpjlpaaDoor.QuotW
open Go.RowKit
open DigM WideM WideV KM DigW WideW QuotM
abbrev OverV (q r : Nat) (e : Int) : Value := .tuple #[wv q, wv r, .int .i64 e]
set_option maxRecDepth 100000 in
set_option maxHeartbeats 1600000 in
theorem over_zero (a : Nat) (w : World) : Calls Tryd.prog 6 #[wv a, wv 0] w (Ret (OverV 0 0 1) w) := by
  have FZ := fun w => zero_any 0 M_pos w
  rw [eqB_same] at FZ
  have HFZ := Lib.hid FZ
  clear FZ
  unfold wv
  have h0 := nought
  refine enter fun u => ?_
  go_enter Tryd.func6, Tryd.ntmps6
  go_wp2_with (first
    | ((with_reducible apply list_box); exact rfl; intro _ _)
    | ((with_reducible apply list_alloc); exact zeroW; intro _ _)
    | ((with_reducible apply lst_load); exact rfl; infer_instance; exact rowW; exact cells_size _ _)
    | ((with_reducible apply lst_store); exact rfl; exact rfl; infer_instance; exact rowW; exact cells_size _ _; exact cells_size _ _; exact cells_one _ _; intro _)
    | (go_at_call 21; (with_reducible refine (HFZ.out _).mono ?_); rintro e w' ⟨rfl, hb'⟩; obtain ⟨_, rfl⟩ := KW.go _ hb'; clear hb'))
  exact body_cell2_tmp Tryd.results6 rfl rfl rfl rowW (cells_size _ _) rowW (cells_size _ _) ⟨rfl, KW.below _⟩
set_option maxRecDepth 100000 in
set_option maxHeartbeats 3200000 in
theorem over_some (a b : Nat) (ha : Hid (a < M)) (hb : Hid (b < M)) (hp : 0 < b) (w : World) : Calls Tryd.prog 6 #[wv a, wv b] w (Ret (OverV (a / b) (a % b) 0) w) := by
  have FZ := fun w => zero_any b hb.out w
  rw [show eqB b 0 = false from decide_eq_false (by omega)] at FZ
  have HFZ := Lib.hid FZ
  have FC := fun w => wcmp_any a b ha hb w
  clear FZ
  by_cases hlt : a < b
  · rw [cmpI_lt hlt] at FC
    have HFC := Lib.hid FC
    rw [Nat.div_eq_of_lt hlt, Nat.mod_eq_of_lt hlt]
    clear FC hlt
    unfold wv
    have h0 := nought
    refine enter fun u => ?_
    go_enter Tryd.func6, Tryd.ntmps6
    go_wp2_with (first
      | ((with_reducible apply list_box); exact rfl; intro _ _)
      | ((with_reducible apply list_alloc); exact zeroW; intro _ _)
      | ((with_reducible apply lst_load); exact rfl; infer_instance; exact rowW; exact cells_size _ _)
      | (go_at_call 21; (with_reducible refine (HFZ.out _).mono ?_); rintro e w' ⟨rfl, hb'⟩; obtain ⟨_, rfl⟩ := KW.go _ hb'; clear hb')
      | (go_at_call 11; (with_reducible refine (HFC.out _).mono ?_); rintro e w' ⟨rfl, hb'⟩; obtain ⟨_, rfl⟩ := KW.go _ hb'; clear hb'))
    refine region_reads _ (Sub.skip (h := Sub.skip (h := Sub.both (h := Sub.both (h := Sub.nil))))) 2 (by kernel_rfl) (by kernel_rfl) (fun _ _ _ _ _ h => by simp only [Exit.then, bodyPost, defers_put] at h ⊢; exact h) ?_
    simp only [List.take_succ_cons, List.take_zero, List.drop_succ_cons, List.drop_zero]
    refine reads_value (v := .agg (cells 8 0)) rfl ?v0 ?_
    case v0 => intro w; rw [← nought]; go_simp
    (with_reducible apply reads_load); exact rfl; infer_instance; exact rowW; exact cells_size _ _
    refine reads_nil fun u2 => ?_
    (with_reducible apply tail_store); exact rfl; exact rfl; infer_instance; infer_instance; exact rowW; exact cells_size _ _; exact cells_size _ _; exact cells_one _ _; intro u3
    (with_reducible apply tail_store); exact rfl; exact rfl; infer_instance; infer_instance; exact rowW; exact cells_size _ _; exact cells_size _ _; exact cells_one _ _; intro u4
    (with_reducible apply tail_assign); exact rfl; infer_instance
    refine tail_nil ?_
    go_wp2_with (fail)
    exact body_cell2_tmp Tryd.results6 rfl rfl rfl rowW (cells_size _ _) rowW (cells_size _ _) ⟨rfl, KW.below _⟩
  · have hz : 0 ≤ cmpI a b := by unfold cmpI; rw [if_neg hlt]; split <;> decide
    generalize cmpI a b = z at *
    have hz2 : decide (z < 0) = false := by simp; omega
    have HFC := Lib.hid FC
    have FN := Lib.hid (fun w => wordsOf_any b hb w)
    clear FC hlt
    by_cases hn : 1 < wn b
    · have FM := Lib.hid (fun w => overMany_any a b ha hb hn w)
      generalize wn b = n at *
      have hn2 : (1 : Int) < n := by omega
      generalize a / b = q at *
      generalize a % b = r at *
      unfold wv
      refine enter fun u => ?_
      go_enter Tryd.func6, Tryd.ntmps6
      go_wp2_with (first
        | ((with_reducible apply list_box); exact rfl; intro _ _)
        | ((with_reducible apply list_alloc); exact zeroW; intro _ _)
        | ((with_reducible apply lst_load); exact rfl; infer_instance; exact rowW; exact cells_size _ _)
        | ((with_reducible apply lst_store); exact rfl; exact rfl; infer_instance; exact rowW; exact cells_size _ _; exact cells_size _ _; exact cells_one _ _; intro _)
        | (go_at_call 21; (with_reducible refine (HFZ.out _).mono ?_); rintro e w' ⟨rfl, hb'⟩; obtain ⟨_, rfl⟩ := KW.go _ hb'; clear hb')
        | (go_at_call 11; (with_reducible refine (HFC.out _).mono ?_); rintro e w' ⟨rfl, hb'⟩; obtain ⟨_, rfl⟩ := KW.go _ hb'; clear hb')
        | (go_at_call 22; (with_reducible refine (FN.out _).mono ?_); rintro e w' ⟨rfl, hb'⟩; obtain ⟨_, rfl⟩ := KW.go _ hb'; clear hb')
        | (go_at_call 23; (with_reducible refine (FM.out _).mono ?_); rintro e w' ⟨rfl, hb'⟩; obtain ⟨_, rfl⟩ := KW.go _ hb'; clear hb'))
      refine region_reads _ (Sub.both (h := Sub.both (h := Sub.both (h := Sub.both (h := Sub.nil))))) 2 (by kernel_rfl) (by kernel_rfl) (fun _ _ _ _ _ h => by simp only [Exit.then, bodyPost, defers_put] at h ⊢; exact h) ?_
      simp only [List.take_succ_cons, List.take_zero, List.drop_succ_cons, List.drop_zero]
      (with_reducible apply reads_load); exact rfl; infer_instance; exact rowW; exact cells_size _ _
      (with_reducible apply reads_load); exact rfl; infer_instance; exact rowW; exact cells_size _ _
      refine reads_nil fun u2 => ?_
      (with_reducible apply tail_store); exact rfl; exact rfl; infer_instance; infer_instance; exact rowW; exact cells_size _ _; exact cells_size _ _; exact cells_one _ _; intro u3
      (with_reducible apply tail_store); exact rfl; exact rfl; infer_instance; infer_instance; exact rowW; exact cells_size _ _; exact cells_size _ _; exact cells_one _ _; intro u4
      (with_reducible apply tail_assign); exact rfl; infer_instance
      refine tail_nil ?_
      go_wp2_with (fail)
      exact body_cell2_tmp Tryd.results6 rfl rfl rfl rowW (cells_size _ _) rowW (cells_size _ _) ⟨rfl, KW.below _⟩
    · have hbB := wn_small (show wn b ≤ 1 by omega)
      have FM := Lib.hid (fun w => overWord_any a b ha (Lib.hid ⟨hp, hbB⟩) w)
      have hrB : a % b < B := Nat.lt_trans (Nat.mod_lt _ hp) hbB
      have FO := Lib.hid (fun w => of_any (a % b) (Lib.hid (by rw [← B_eq]; exact hrB)) w)
      have c0 := cells_at (show 0 < 8 by decide) (wd_self hbB)
      generalize wn b = n at *
      have hn2 : ¬ (1 : Int) < n := by omega
      have hn3 : decide ((1 : Int) < n) = false := by simp; omega
      generalize a / b = q at *
      generalize a % b = r at *
      clear hbB hrB
      unfold wv
      refine enter fun u => ?_
      go_enter Tryd.func6, Tryd.ntmps6
      go_wp2_with (first
        | ((with_reducible apply list_box); exact rfl; intro _ _)
        | ((with_reducible apply list_alloc); exact zeroW; intro _ _)
        | ((with_reducible apply lst_load); exact rfl; infer_instance; exact rowW; exact cells_size _ _)
        | ((with_reducible apply lst_store); exact rfl; exact rfl; infer_instance; exact rowW; exact cells_size _ _; exact cells_size _ _; exact cells_one _ _; intro _)
        | (go_at_call 21; (with_reducible refine (HFZ.out _).mono ?_); rintro e w' ⟨rfl, hb'⟩; obtain ⟨_, rfl⟩ := KW.go _ hb'; clear hb')
        | (go_at_call 11; (with_reducible refine (HFC.out _).mono ?_); rintro e w' ⟨rfl, hb'⟩; obtain ⟨_, rfl⟩ := KW.go _ hb'; clear hb')
        | (go_at_call 22; (with_reducible refine (FN.out _).mono ?_); rintro e w' ⟨rfl, hb'⟩; obtain ⟨_, rfl⟩ := KW.go _ hb'; clear hb')
        | (go_at_call 24; (with_reducible refine (FM.out _).mono ?_); rintro e w' ⟨rfl, hb'⟩; obtain ⟨_, rfl⟩ := KW.go _ hb'; clear hb'))
      refine region_tail 3 (by kernel_rfl) (by kernel_rfl) fun _ => ?_
      simp only [List.take_succ_cons, List.take_zero, List.drop_succ_cons, List.drop_zero]
      repeat (go_big_quiet_step (first | (with_reducible exact call FO.out _)))
      refine wpQuiet_nil ?_
      rintro _ ⟨u2, rfl⟩
      go_wp2_with (first
        | ((with_reducible apply lst_store); exact rfl; exact rfl; infer_instance; exact rowW; exact cells_size _ _; exact cells_size _ _; exact cells_one _ _; intro _))
      exact body_cell2_tmp Tryd.results6 rfl rfl rfl rowW (cells_size _ _) rowW (cells_size _ _) ⟨rfl, KW.below _⟩
end Go.Proofs.YtiklebonkpjlpaaDoor.QuotW
