/-
  package sign: quotient, as an int, as a text: contracts over the translation.
-/
import Derived.Test.YtmmnekcnaohnbaaDoorSign2
namespace Go.Proofs.YtmmnekcnaohnbaaDoor.SignW
open Go.RowKit
open DigM WideM WideV KM DigW WideW QuotW QuotM DecM FmtW SignM
open Go.Lib (decDigits nDigits)
theorem m_big : 18446744073709551617 < M := by unfold M; rw [B_eq]; decide +kernel
/-- a quotient's size, cut down: s and t the signs -/
def ovq (r : Bool) (a b : Nat) : Nat := if r = true ∧ ¬ a % b = 0 then a / b + 1 else a / b
theorem ovq_lt {r : Bool} {a b : Nat} (ha : a < M) : ovq r a b < M := by
  unfold ovq
  split
  · rename_i h
    have h2 : b ≠ 1 := fun e => h.2 (by rw [e]; exact Nat.mod_one a)
    rcases Nat.lt_or_ge b 1 with hb | hb
    · obtain rfl : b = 0 := by omega
      rw [Nat.div_zero]; have := m_big; omega
    · have h3 : a / b ≤ a / 2 := Nat.div_le_div_left (by omega) (by decide)
      have := m_big
      omega
  · exact Nat.lt_of_le_of_lt (Nat.div_le_self a b) ha
set_option maxRecDepth 100000 in
set_option maxHeartbeats 3200000 in
theorem sover_zero (s t : Bool) (a : Nat) (w : World) : Calls Tryd.prog 19 #[iv s a, iv t 0] w (Ret (.tuple #[iv false 0, .int .i64 1]) w) := by
  have HO := Lib.hid (fun w => over_zero a w)
  refine enter fun u => ?_
  go_enter Tryd.func19, Tryd.ntmps19
  go_wp2_with (first
    | ((with_reducible apply list_box); exact rfl; intro _ _)
    | ((with_reducible apply ls_alloc); infer_instance; intro _ _)
    | ((with_reducible apply ls_load); exact rfl; infer_instance; infer_instance)
    | ((with_reducible apply ls_store); exact rfl; exact rfl; infer_instance; infer_instance; infer_instance; intro _)
    | (with_reducible apply ls_I0)
    | (go_at_call 36; (with_reducible refine (HO.out _).mono ?_); rintro e w' ⟨rfl, hb'⟩; obtain ⟨_, rfl⟩ := KW.go _ hb'; clear hb'))
  exact bd_cell_tmp Tryd.results19 rfl rfl inferInstance inferInstance ⟨rfl, KW.below _⟩
set_option maxRecDepth 100000 in
set_option maxHeartbeats 6400000 in
theorem sover_some (s t : Bool) (a b : Nat) (ha : Hid (a < M)) (hb : Hid (b < M)) (hp : 0 < b) (w : World) : Calls Tryd.prog 19 #[iv s a, iv t b] w (Ret (.tuple #[nv (sg (s != t) (ovq (s != t) a b)), .int .i64 0]) w) := by
  have HO := Lib.hid (fun w => over_some a b ha hb hp w)
  obtain ⟨r, hr⟩ : ∃ r, r = (s != t) := ⟨_, rfl⟩
  rw [← hr]
  have HT := Lib.hid (fun w => told_any r (ovq r a b) (Lib.hid (ovq_lt ha.out)) w)
  have hrM : a % b < M := Nat.lt_trans (Nat.mod_lt a hp) hb.out
  have HZ := fun w => zero_any (a % b) hrM w
  clear hrM
  cases r with
  | false =>
    have e : ovq false a b = a / b := if_neg (by simp)
    rw [e] at HT ⊢
    clear e HZ
    generalize a / b = q at *
    generalize a % b = k at *
    generalize sg false q = z at *
    refine enter fun u => ?_
    go_enter Tryd.func19, Tryd.ntmps19
    cases s <;> cases t <;> first | exact absurd hr (by decide) | skip
    all_goals (
      clear hr hp ha hb
      go_wp2_with (first
        | ((with_reducible apply list_box); exact rfl; intro _ _)
        | ((with_reducible apply ls_alloc); infer_instance; intro _ _)
        | ((with_reducible apply ls_load); exact rfl; infer_instance; infer_instance)
        | ((with_reducible apply ls_store); exact rfl; exact rfl; infer_instance; infer_instance; infer_instance; intro _)
        | (go_at_call 36; (with_reducible refine (HO.out _).mono ?_); rintro e w' ⟨rfl, hb'⟩; obtain ⟨_, rfl⟩ := KW.go _ hb'; clear hb')
        | (go_at_call 27; (with_reducible refine (HT.out _).mono ?_); rintro e w' ⟨rfl, hb'⟩; obtain ⟨_, rfl⟩ := KW.go _ hb'; clear hb'))
      exact bd_cell_tmp Tryd.results19 rfl rfl inferInstance inferInstance ⟨rfl, KW.below _⟩)
  | true =>
    by_cases h0 : a % b = 0
    · have e : ovq true a b = a / b := if_neg (by simp [h0])
      rw [e] at HT ⊢
      rw [h0] at HO HZ
      have HZ := Lib.hid HZ
      have hz := eqB_same 0
      rw [hz] at HZ
      clear hz e h0
      generalize a / b = q at *
      generalize sg true q = z at *
      refine enter fun u => ?_
      go_enter Tryd.func19, Tryd.ntmps19
      cases s <;> cases t <;> first | exact absurd hr (by decide) | skip
      all_goals (
        clear hr hp ha hb
        go_wp2_with (first
          | ((with_reducible apply list_box); exact rfl; intro _ _)
          | ((with_reducible apply ls_alloc); infer_instance; intro _ _)
          | ((with_reducible apply ls_load); exact rfl; infer_instance; infer_instance)
          | ((with_reducible apply ls_store); exact rfl; exact rfl; infer_instance; infer_instance; infer_instance; intro _)
          | (go_at_call 36; (with_reducible refine (HO.out _).mono ?_); rintro e w' ⟨rfl, hb'⟩; obtain ⟨_, rfl⟩ := KW.go _ hb'; clear hb')
          | (go_at_call 27; (with_reducible refine (HT.out _).mono ?_); rintro e w' ⟨rfl, hb'⟩; obtain ⟨_, rfl⟩ := KW.go _ hb'; clear hb')
          | (go_at_call 37; (with_reducible refine (HZ.out _).mono ?_); rintro e w' ⟨rfl, hb'⟩; obtain ⟨_, rfl⟩ := KW.go _ hb'; clear hb'))
        exact bd_cell_tmp Tryd.results19 rfl rfl inferInstance inferInstance ⟨rfl, KW.below _⟩)
    · have e : ovq true a b = a / b + 1 := if_pos ⟨rfl, h0⟩
      have hlt := ovq_lt (r := true) (b := b) ha.out
      rw [e] at HT hlt ⊢
      rw [show eqB (a % b) 0 = false from decide_eq_false h0] at HZ
      have HZ := Lib.hid HZ
      have H1 := Lib.hid (fun w => of_any 1 (Lib.hid (by decide)) w)
      have HA := Lib.hid (fun w => wadd_fit (a / b) 1 (Lib.hid (by omega)) (Lib.hid (by have := m_big; omega)) hlt w)
      clear hlt e h0
      generalize a / b + 1 = q1 at *
      generalize a / b = q at *
      generalize a % b = k at *
      generalize sg true q1 = z at *
      refine enter fun u => ?_
      go_enter Tryd.func19, Tryd.ntmps19
      cases s <;> cases t <;> first | exact absurd hr (by decide) | skip
      all_goals (
        clear hr hp ha hb
        go_wp2_with (first
          | ((with_reducible apply list_box); exact rfl; intro _ _)
          | ((with_reducible apply ls_alloc); infer_instance; intro _ _)
          | ((with_reducible apply ls_load); exact rfl; infer_instance; infer_instance)
          | ((with_reducible apply ls_store); exact rfl; exact rfl; infer_instance; infer_instance; infer_instance; intro _)
          | (go_at_call 36; (with_reducible refine (HO.out _).mono ?_); rintro e w' ⟨rfl, hb'⟩; obtain ⟨_, rfl⟩ := KW.go _ hb'; clear hb')
          | (go_at_call 27; (with_reducible refine (HT.out _).mono ?_); rintro e w' ⟨rfl, hb'⟩; obtain ⟨_, rfl⟩ := KW.go _ hb'; clear hb')
          | (go_at_call 37; (with_reducible refine (HZ.out _).mono ?_); rintro e w' ⟨rfl, hb'⟩; obtain ⟨_, rfl⟩ := KW.go _ hb'; clear hb'))
        try simp only [Act.put, List.setIfInBounds_toArray, List.set_cons_succ, List.set_cons_zero]
        refine region_mixS [.take 1, .sole 0, .sole 2, .sole 3, .take 4, .take 5, .sole 6] _ (Sub.nil) (by kernel_rfl) (by kernel_rfl) ?_
        simp only [picksM, Mv.pick, List.filterMap_cons, List.filterMap_nil, List.getElem?_cons_zero, List.getElem?_cons_succ, Option.map_some]
        refine sm_call (f := 38) (args := #[.int .u64 1]) (by intro w; go_simp) (fun _ u => H1.out _) ?_
        try simp only [Act.put, List.setIfInBounds_toArray, List.set_cons_succ, List.set_cons_zero]
        refine so_load inferInstance rfl inferInstance inferInstance ?_
        try simp only [Act.put, List.setIfInBounds_toArray, List.set_cons_succ, List.set_cons_zero]
        refine so_call (f := 26) (args := #[wv q, wv 1]) inferInstance (by intro w; go_simp) (fun u => HA.out _) ?_
        try simp only [Act.put, List.setIfInBounds_toArray, List.set_cons_succ, List.set_cons_zero]
        refine so_value (v := .tuple #[wv q1, .bool true]) inferInstance (by intro w; go_simp) ?_
        try simp only [Act.put, List.setIfInBounds_toArray, List.set_cons_succ, List.set_cons_zero]
        refine sm_value (v := wv q1) (by intro w; go_simp) ?_
        try simp only [Act.put, List.setIfInBounds_toArray, List.set_cons_succ, List.set_cons_zero]
        refine sm_value (v := .bool true) (by intro w; go_simp) ?_
        try simp only [Act.put, List.setIfInBounds_toArray, List.set_cons_succ, List.set_cons_zero]
        refine so_store rfl rfl inferInstance inferInstance inferInstance inferInstance ?_
        try simp only [Act.put, List.setIfInBounds_toArray, List.set_cons_succ, List.set_cons_zero]
        refine sm_nil fun u7 => ?_
        go_wp2_with (first
          | ((with_reducible apply list_box); exact rfl; intro _ _)
          | ((with_reducible apply ls_alloc); infer_instance; intro _ _)
          | ((with_reducible apply ls_load); exact rfl; infer_instance; infer_instance)
          | ((with_reducible apply ls_store); exact rfl; exact rfl; infer_instance; infer_instance; infer_instance; intro _)
          | (go_at_call 36; (with_reducible refine (HO.out _).mono ?_); rintro e w' ⟨rfl, hb'⟩; obtain ⟨_, rfl⟩ := KW.go _ hb'; clear hb')
          | (go_at_call 27; (with_reducible refine (HT.out _).mono ?_); rintro e w' ⟨rfl, hb'⟩; obtain ⟨_, rfl⟩ := KW.go _ hb'; clear hb')
          | (go_at_call 37; (with_reducible refine (HZ.out _).mono ?_); rintro e w' ⟨rfl, hb'⟩; obtain ⟨_, rfl⟩ := KW.go _ hb'; clear hb'))
        exact bd_cell_tmp Tryd.results19 rfl rfl inferInstance inferInstance ⟨rfl, KW.below _⟩)
end Go.Proofs.YtmmnekcnaohnbaaDoor.SignW
