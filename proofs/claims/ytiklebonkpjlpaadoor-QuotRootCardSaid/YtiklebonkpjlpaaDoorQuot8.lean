/-
  package quot: square roots: contracts over the translation.
-/
import Derived.Test.YtiklebonkpjlpaaDoorQuot7
import Derived.Test.YtiklebonkpjlpaaDoorAny
namespace Go.Proofs.YtiklebonkpjlpaaDoor.QuotW
open Go.RowKit
open DigM WideM WideV KM DigW WideW QuotM
set_option maxRecDepth 100000 in
set_option maxHeartbeats 1600000 in
theorem nearer_any (a x : Nat) (ha : Hid (a < M)) (hx : Hid (x < M)) (hp : 0 < x) (hs : Hid (x + a / x < M)) (w : World) : Calls Tryd.prog 33 #[wv a, wv x] w (Ret (wv ((x + a / x) / 2)) w) := by
  have FO := Lib.hid (fun w => over_some a x ha hx hp w)
  have hq : a / x < M := by have := hs.out; omega
  have FA := fun w => wadd_any x (a / x) hx (Lib.hid hq) w
  rw [low_of hs.out] at FA
  have FS := fun w => wshift_any (x + a / x) (-1) (by decide) (by decide) hs w
  rw [show shN (x + a / x) (-1) = (x + a / x) / 2 by have := sh_right hs.out 1; rw [Nat.pow_one] at this; exact this] at FS
  have HFA := Lib.hid FA
  have HFS := Lib.hid FS
  generalize a % x = r at *
  generalize fitB (x + a / x) = f at *
  generalize (x + a / x) / 2 = y at *
  generalize x + a / x = s at *
  generalize a / x = q at *
  clear FA FS hq hs
  unfold wv
  refine enter fun u => ?_
  go_enter Tryd.func33, Tryd.ntmps33
  go_wp2_with (first
    | ((with_reducible apply list_box); exact rfl; intro _ _)
    | ((with_reducible apply list_alloc); exact zeroW; intro _ _)
    | ((with_reducible apply lst_load); exact rfl; infer_instance; exact rowW; exact cells_size _ _)
    | ((with_reducible apply lst_store); exact rfl; exact rfl; infer_instance; exact rowW; exact cells_size _ _; exact cells_size _ _; exact cells_one _ _; intro _)
    | (go_at_call 6; (with_reducible refine (FO.out _).mono ?_); rintro e w' ⟨rfl, hb'⟩; obtain ⟨_, rfl⟩ := KW.go _ hb'; clear hb')
    | (go_at_call 10; (with_reducible refine (HFA.out _).mono ?_); rintro e w' ⟨rfl, hb'⟩; obtain ⟨_, rfl⟩ := KW.go _ hb'; clear hb')
    | (go_at_call 31; (with_reducible refine (HFS.out _).mono ?_); rintro e w' ⟨rfl, hb'⟩; obtain ⟨_, rfl⟩ := KW.go _ hb'; clear hb'))
  exact body_cell Tryd.results33 rfl rowW (cells_size _ _) ⟨rfl, KW.below _⟩
def RtRel (a E : Nat) (w : World) (g1 g2 g3 : Nat) (x : Nat) (wr : World) : Prop :=
  ∃ u : KW w [⟨g3, cells 8 x, 24⟩, ⟨g2, cells 8 0, 24⟩, ⟨g1, cells 8 a, 24⟩], wr = u.w ∧ Hid (0 < x ∧ a < (x + 1) * (x + 1) ∧ x ≤ E)
def RootPost (a : Nat) (w : World) (e : Ending) (w' : World) : Prop := ∃ x, e = .returned (wv x) ∧ Below w.heap.size w w' ∧ Hid (RootOf a x ∧ x < M ∧ (x + 1) * (x + 1) < 4 * M)
/-- where the root's search begins -/
theorem root_start {a : Nat} (ha : a < M) (h0 : 0 < a) : ∃ k E : Nat, (bl a + 1) / 2 = k ∧ k ≤ 256 ∧ shN 1 k = 2 ^ k ∧ 2 ^ k ≤ E ∧ E * E = M ∧ a < (2 ^ k + 1) * (2 ^ k + 1) := by
  obtain ⟨e, he⟩ : ∃ e : Nat, e = 256 := ⟨_, rfl⟩
  have hbl := bl_le ha
  have hM : 2 ^ e * 2 ^ e = M := by rw [← Nat.pow_add, ← M_two (e + e) (by omega)]
  have hk : (bl a + 1) / 2 ≤ e := by omega
  have hp : 2 ^ ((bl a + 1) / 2) ≤ 2 ^ e := Nat.pow_le_pow_right (by decide) hk
  refine ⟨(bl a + 1) / 2, 2 ^ e, rfl, by omega, ?_, hp, hM, ?_⟩
  · rw [sh_left, Nat.one_mul, low_of]
    rw [← hM]
    have h1 := Nat.two_pow_pos e
    have : 2 ≤ 2 ^ e := by
      have := Nat.pow_le_pow_right (show 0 < 2 by decide) (show 1 ≤ e by omega)
      rwa [Nat.pow_one] at this
    have := Nat.mul_le_mul this (Nat.le_refl (2 ^ e))
    omega
  · have h1 := (bl_BL a).1
    have h2 : 2 ^ bl a ≤ 2 ^ ((bl a + 1) / 2 + (bl a + 1) / 2) := Nat.pow_le_pow_right (by decide) (by omega)
    rw [Nat.pow_add] at h2
    have h3 := Nat.mul_le_mul (show 2 ^ ((bl a + 1) / 2) ≤ 2 ^ ((bl a + 1) / 2) + 1 by omega) (show 2 ^ ((bl a + 1) / 2) ≤ 2 ^ ((bl a + 1) / 2) + 1 by omega)
    omega
theorem root_small {a x E : Nat} (hE : E * E = M) (hx : x ≤ E) (hp : 0 < x) (h : a < (x + 1) * (x + 1)) : x < M ∧ x + a / x < M ∧ (x + 1) * (x + 1) < 4 * M := by
  have hq := root_quot hp h
  have hM : 16 ≤ M := by
    unfold M; rw [B_eq]; decide +kernel
  have hE4 : 4 ≤ E := by
    apply Nat.le_of_not_lt; intro hc
    have := Nat.mul_le_mul (show E ≤ 3 by omega) (show E ≤ 3 by omega)
    omega
  have h1 := Nat.mul_le_mul hE4 (Nat.le_refl E)
  have h2 := Nat.mul_le_mul (show x + 1 ≤ E + 1 by omega) (show x + 1 ≤ E + 1 by omega)
  have e : (E + 1) * (E + 1) = E * E + E + E + 1 := by rw [Nat.mul_add, Nat.add_mul]; omega
  refine ⟨by omega, by omega, by omega⟩
set_option maxRecDepth 100000 in
set_option maxHeartbeats 3200000 in
theorem root_any (a : Nat) (ha : Hid (a < M)) (w : World) : Calls Tryd.prog 14 #[wv a] w (RootPost a w) := by
  have FZ := fun w => zero_any a ha.out w
  by_cases h0 : a = 0
  · subst h0
    rw [eqB_same] at FZ
    have HFZ := Lib.hid FZ
    clear FZ
    unfold wv
    refine enter fun u => ?_
    go_enter Tryd.func14, Tryd.ntmps14
    go_wp2_with (first
      | ((with_reducible apply list_box); exact rfl; intro _ _)
      | ((with_reducible apply list_alloc); exact zeroW; intro _ _)
      | ((with_reducible apply lst_load); exact rfl; infer_instance; exact rowW; exact cells_size _ _)
      | ((with_reducible apply lst_store); exact rfl; exact rfl; infer_instance; exact rowW; exact cells_size _ _; exact cells_size _ _; exact cells_one _ _; intro _)
      | (go_at_call 21; (with_reducible refine (HFZ.out _).mono ?_); rintro e w' ⟨rfl, hb'⟩; obtain ⟨_, rfl⟩ := KW.go _ hb'; clear hb'))
    exact body_cell Tryd.results14 rfl rowW (cells_size _ _) ⟨0, rfl, KW.below _, Lib.hid ⟨⟨Nat.le_refl _, by decide⟩, M_pos, by have := M_pos; omega⟩⟩
  · rw [show eqB a 0 = false from decide_eq_false h0] at FZ
    have HFZ := Lib.hid FZ
    obtain ⟨k, E, hk, hk256, hsh, hpE, hE, hst⟩ := root_start ha.out (by omega)
    have FL := fun w => wlen8_any a ha w
    have F1 := fun w => of_any 1 (Lib.hid (by decide)) w
    have m1 : 1 < M := by unfold M; rw [B_eq]; decide +kernel
    have FS := fun w => wshift_any 1 (k : Int) (by omega) (by omega) (Lib.hid m1) w
    rw [hsh] at FS
    have hbl := bl_le ha.out
    have hpos := Nat.two_pow_pos k
    generalize bl a = l at *
    generalize 2 ^ k = x0 at *
    have hwa : IntKind.i64.wrap ((l : Int) + 1) = (l : Int) + 1 := by rw [IntKind.wrap_i64]; omega
    have hwb : IntKind.i64.wrap (((l : Int) + 1).tdiv 2) = (k : Int) := by rw [Int.tdiv_eq_ediv_of_nonneg (by omega), IntKind.wrap_i64]; omega
    have HFL := Lib.hid FL
    have HF1 := Lib.hid F1
    have HFS := Lib.hid FS
    have H0 : Hid (0 < x0 ∧ a < (x0 + 1) * (x0 + 1) ∧ x0 ≤ E) := Lib.hid ⟨hpos, hst, hpE⟩
    have HE := Lib.hid hE
    have HA0 := Lib.hid h0
    clear FZ FL F1 FS hsh m1 hst hpE hE hpos h0 hk
    unfold wv
    refine enter fun u => ?_
    go_enter Tryd.func14, Tryd.ntmps14
    go_wp2_with (first
      | ((with_reducible apply list_box); exact rfl; intro _ _)
      | ((with_reducible apply list_alloc); exact zeroW; intro _ _)
      | ((with_reducible apply lst_load); exact rfl; infer_instance; exact rowW; exact cells_size _ _)
      | (go_at_call 21; (with_reducible refine (HFZ.out _).mono ?_); rintro e w' ⟨rfl, hb'⟩; obtain ⟨_, rfl⟩ := KW.go _ hb'; clear hb'))
    refine region_any [0, 1, 2, 3, 4, 5] [6, 7] _ (Sub.skip (h := Sub.both (h := Sub.nil))) (by kernel_rfl) (by kernel_rfl) ?_
    simp only [pick, List.filterMap_cons, List.filterMap_nil, List.getElem?_cons_zero, List.getElem?_cons_succ]
    refine head_call (by intro w; go_simp) HF1.out ?_
    (with_reducible apply head_load); exact rfl; infer_instance; exact rowW; exact cells_size _ _
    simp only [Act.put, List.setIfInBounds_toArray, List.set_cons_succ, List.set_cons_zero]
    refine head_call (by intro w; go_simp) HFL.out ?_
    simp only [Act.put, List.setIfInBounds_toArray, List.set_cons_succ, List.set_cons_zero]
    refine head_value (v := .int .i64 ((l : Int) + 1)) (by intro w; go_simp) ?_
    simp only [Act.put, List.setIfInBounds_toArray, List.set_cons_succ, List.set_cons_zero]
    refine head_value (v := .int .i64 (k : Int)) (by intro w; go_simp) ?_
    simp only [Act.put, List.setIfInBounds_toArray, List.set_cons_succ, List.set_cons_zero]
    refine head_call (by intro w; go_simp) HFS.out ?_
    refine head_nil ?_
    (with_reducible apply tailS_alloc); exact zeroW; infer_instance; intro g3
    (with_reducible apply tailS_store); exact rfl; exact rfl; infer_instance; infer_instance; exact rowW; exact cells_size _ _; exact cells_size _ _; exact cells_one _ _
    refine tailS_nil fun u3 => ?_
    simp only [Act.put, List.setIfInBounds_toArray, List.set_cons_succ, List.set_cons_zero]
    go_wp2_with (fail)
    rename_i g1 x1 g2 x2 _
    clear x2 x1 u hwa hwb HFL HF1 HFS HFZ
    go_loopg [] x0 (fun k wr => RtRel a E w g1 g2 g3 k wr)
    case atStart => exact ⟨u3, rfl, H0⟩
    case round =>
      clear u3 H0
      obtain ⟨u, rfl, hR⟩ := hrel
      have hsm := root_small HE.out hR.out.2.2 hR.out.1 hR.out.2.1
      have hnw := newton (a := a) hR.out.1
      have FN := Lib.hid (fun w => nearer_any a gk ha (Lib.hid hsm.1) hR.out.1 (Lib.hid hsm.2.1) w)
      have hyM : (gk + a / gk) / 2 < M := by have := hsm.2.1; omega
      have FC := fun w => wcmp_any ((gk + a / gk) / 2) gk (Lib.hid hyM) (Lib.hid hsm.1) w
      by_cases hc : (gk + a / gk) / 2 < gk
      · rw [cmpI_lt hc] at FC
        have HFC := Lib.hid FC
        have HL := Lib.hid hc
        have HN : Hid (0 < (gk + a / gk) / 2 ∧ a < ((gk + a / gk) / 2 + 1) * ((gk + a / gk) / 2 + 1) ∧ (gk + a / gk) / 2 ≤ E) := Lib.hid ⟨by
          apply Nat.pos_of_ne_zero; intro h0
          rw [h0] at hnw
          have := HA0.out
          omega, hnw, by have := hR.out.2.2; omega⟩
        generalize (gk + a / gk) / 2 = y at *
        clear FC hc hnw hyM hsm
        go_wp2_with (first
          | ((with_reducible apply list_alloc); exact zeroW; intro _ _)
          | ((with_reducible apply lst_load); exact rfl; infer_instance; exact rowW; exact cells_size _ _)
          | ((with_reducible apply lst_store); exact rfl; exact rfl; infer_instance; exact rowW; exact cells_size _ _; exact cells_size _ _; exact cells_one _ _; intro _)
          | (go_at_call 33; (with_reducible refine (FN.out _).mono ?_); rintro e w' ⟨rfl, hb'⟩; obtain ⟨_, rfl⟩ := KW.go _ hb'; clear hb')
          | (go_at_call 11; (with_reducible refine (HFC.out _).mono ?_); rintro e w' ⟨rfl, hb'⟩; obtain ⟨_, rfl⟩ := KW.go _ hb'; clear hb'))
        simp only [Act.put, List.setIfInBounds_toArray, List.set_cons_succ, List.set_cons_zero]
        rename_i u5
        obtain ⟨u6, hu6⟩ := KW.weak (h := Sub.skip (h := Sub.both (h := Sub.both (h := Sub.both (h := Sub.nil))))) u5
        rw [hu6]
        go_roundg y
        case measure => exact HL.out
        case rel => exact ⟨u6, rfl, HN⟩
      · have hz : 0 ≤ cmpI ((gk + a / gk) / 2) gk := by unfold cmpI; rw [if_neg hc]; split <;> decide
        have HRO : Hid (RootOf a gk ∧ gk < M ∧ (gk + 1) * (gk + 1) < 4 * M) := Lib.hid ⟨root_over hR.out.1 hR.out.2.1 (by omega), hsm.1, hsm.2.2⟩
        generalize cmpI ((gk + a / gk) / 2) gk = z at *
        have hz2 : decide (z < 0) = false := by simp; omega
        have HFC := Lib.hid FC
        generalize (gk + a / gk) / 2 = y at *
        clear FC hc hnw hyM hsm
        go_wp2_with (first
          | ((with_reducible apply list_alloc); exact zeroW; intro _ _)
          | ((with_reducible apply lst_load); exact rfl; infer_instance; exact rowW; exact cells_size _ _)
          | ((with_reducible apply lst_store); exact rfl; exact rfl; infer_instance; exact rowW; exact cells_size _ _; exact cells_size _ _; exact cells_one _ _; intro _)
          | (go_at_call 33; (with_reducible refine (FN.out _).mono ?_); rintro e w' ⟨rfl, hb'⟩; obtain ⟨_, rfl⟩ := KW.go _ hb'; clear hb')
          | (go_at_call 11; (with_reducible refine (HFC.out _).mono ?_); rintro e w' ⟨rfl, hb'⟩; obtain ⟨_, rfl⟩ := KW.go _ hb'; clear hb'))
        exact body_cell Tryd.results14 rfl rowW (cells_size _ _) ⟨gk, rfl, KW.below _, HRO⟩
end Go.Proofs.YtiklebonkpjlpaaDoor.QuotW
