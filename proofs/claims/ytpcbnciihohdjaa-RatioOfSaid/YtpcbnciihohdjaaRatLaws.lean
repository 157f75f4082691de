/-
  The laws of layer 6: the layer's own example; the walk of RatioOf.
-/
import Derived.Test.YtpcbnciihohdjaaRatRef
namespace Go.Proofs.Ytpcbnciihohdjaa.RatW
open Go.RowKit
open DigM WideM WideV KM DigW WideW QuotW QuotM DecM FmtW SignM SignW
def TrueAt6 (w : World) (e : Ending) (w' : World) : Prop := e = .returned (.bool true) ∧ Below w.heap.size w w'
theorem nv_pos (n : Nat) : nv (n : Int) = iv false n := by
  unfold nv
  rw [show ng (n : Int) = false from decide_eq_false (by omega), Int.natAbs_natCast]
set_option maxRecDepth 100000 in
set_option maxHeartbeats 3200000 in
theorem awake6_any (w : World) : Calls Try.prog 10 #[] w (Ret (.bool true) w) := by
  have hM := fun (n : Nat) (h : n < 18446744073709551617) => Lib.hid (small_M h)
  have S6 : Hid (∀ w, Calls Try.prog 29 #[.int .i64 6] w (Ret (iv false 6) w)) := Lib.hid fun w => sof_any 6 (by decide) (by decide) w
  have S4 : Hid (∀ w, Calls Try.prog 29 #[.int .i64 (-4)] w (Ret (iv true 4) w)) := Lib.hid fun w => sof_any (-4) (by decide) (by decide) w
  have S3 : Hid (∀ w, Calls Try.prog 29 #[.int .i64 (-3)] w (Ret (iv true 3) w)) := Lib.hid fun w => sof_any (-3) (by decide) (by decide) w
  have S2 : Hid (∀ w, Calls Try.prog 29 #[.int .i64 (-2)] w (Ret (iv true 2) w)) := Lib.hid fun w => sof_any (-2) (by decide) (by decide) w
  have O : Hid (∀ w, Calls Try.prog 7 #[iv false 6, iv true 4] w (Ret (.tuple #[rv true 3 2, .int .i64 0]) w)) := Lib.hid fun w => rof_some false true 6 4 (hM 6 (by decide)) (hM 4 (by decide)) (by decide) w
  have F : Hid (∀ w, Calls Try.prog 17 #[rv true 3 2] w (Ret (.tuple #[iv true 2, .int .i64 0]) w)) := Lib.hid fun w => floor_yes true 3 2 (hM 3 (by decide)) (hM 2 (by decide)) (by decide) w
  have P : Hid (∀ w, Calls Try.prog 25 #[.int .i64 10, .int .i64 2, .int .i64 3] w (Ret (.tuple #[.int .i64 6, .int .i64 0]) w)) := Lib.hid fun w => part_yes 10 2 3 (by decide) (by decide) (by decide) (by decide) w
  clear hM
  refine enter fun u => ?_
  go_enter Try.func10, Try.ntmps10
  go_wp2_with (first
    | ((with_reducible apply ls_alloc); infer_instance; intro _ _)
    | ((with_reducible apply ls_load); exact rfl; infer_instance; infer_instance)
    | ((with_reducible apply ls_store); exact rfl; exact rfl; infer_instance; infer_instance; infer_instance; intro _)
    | (go_at_call 29; (with_reducible refine (S6.out _).mono ?_); rintro e w' ⟨rfl, hb'⟩; obtain ⟨_, rfl⟩ := KW.go _ hb'; clear hb')
    | (go_at_call 29; (with_reducible refine (S4.out _).mono ?_); rintro e w' ⟨rfl, hb'⟩; obtain ⟨_, rfl⟩ := KW.go _ hb'; clear hb')
    | (go_at_call 7; (with_reducible refine (O.out _).mono ?_); rintro e w' ⟨rfl, hb'⟩; obtain ⟨_, rfl⟩ := KW.go _ hb'; clear hb')
    | (go_at_call 17; (with_reducible refine (F.out _).mono ?_); rintro e w' ⟨rfl, hb'⟩; obtain ⟨_, rfl⟩ := KW.go _ hb'; clear hb')
    | (go_at_call 25; (with_reducible refine (P.out _).mono ?_); rintro e w' ⟨rfl, hb'⟩; obtain ⟨_, rfl⟩ := KW.go _ hb'; clear hb'))
  refine region (by kernel_rfl) (by kernel_rfl) fun _ => ?_
  refine QQ.out ?_
  repeat (first
    | ((with_reducible apply qq_skip); (exact rfl); (try simp only [Act.put, List.setIfInBounds_toArray, List.set_cons_succ, List.set_cons_zero]))
    | ((with_reducible apply qq_load); exact rfl; infer_instance; infer_instance; exact rfl; (try simp only [Act.put, List.setIfInBounds_toArray, List.set_cons_succ, List.set_cons_zero]))
    | ((with_reducible apply qq_cell); exact rfl; infer_instance; infer_instance; exact rfl; (try simp only [Act.put, List.setIfInBounds_toArray, List.set_cons_succ, List.set_cons_zero]))
    | ((with_reducible apply qq_W_0 (n := 2)); exact rfl; exact lit_B (by omega); exact rfl; (try simp only [Act.put, List.setIfInBounds_toArray, List.set_cons_succ, List.set_cons_zero]))
    | ((with_reducible apply qq_callf (f := 29)); (intro _; go_simp; try exact rfl); (with_reducible exact fun u => S3.out _); exact rfl; (try simp only [Act.put, List.setIfInBounds_toArray, List.set_cons_succ, List.set_cons_zero]))
    | ((with_reducible apply qq_callf (f := 29)); (intro _; go_simp; try exact rfl); (with_reducible exact fun u => S2.out _); exact rfl; (try simp only [Act.put, List.setIfInBounds_toArray, List.set_cons_succ, List.set_cons_zero]))
    | ((with_reducible apply qq_value); (intro _; go_simp; try exact rfl); exact rfl; (try simp only [Act.put, List.setIfInBounds_toArray, List.set_cons_succ, List.set_cons_zero])))
  refine qq_nil ?_
  rintro _ ⟨u7, rfl⟩
  go_wp2_with (fail)
  go_ret
  exact ⟨rfl, KW.below _⟩
theorem lowV_is (r : Bool) (a b : Nat) (ha : a < M) (hb : b < M) : ∃ p m y, lowV r a b = rv p m y ∧ Hid (m < M) ∧ Hid (y < M) :=
  ⟨_, _, _, rfl, Lib.hid (by rw [sg_abs]; exact Nat.lt_of_le_of_lt (Nat.div_le_self _ _) ha), Lib.hid (Nat.lt_of_le_of_lt (Nat.div_le_self _ _) hb)⟩
set_option maxRecDepth 100000 in
set_option maxHeartbeats 3200000 in
theorem ratioOf_walk (s t : Bool) (a b : Nat) (z : Int) (ha : Hid (a < M)) (hb : Hid (b < M)) (h1 : -9223372036854775808 ≤ z) (h2 : z ≤ 9223372036854775807) (w : World) : Calls Try.prog 3 #[iv s a, iv t b, .int .i64 z] w (TrueAt6 w) := by
  have HA := Lib.hid (fun w => awake6_any w)
  have HW := fun w => rwhole_any z h1 h2 w
  have HS := fun w => rof_any z h1 h2 w
  have hz := fun w => eqlW b 0 hb.out M_pos w
  unfold nv at HS
  generalize ng z = p1 at *
  generalize z.natAbs = m1 at *
  replace HW := Lib.hid HW
  replace HS := Lib.hid HS
  clear h1 h2
  by_cases h0 : b = 0
  · subst h0
    rw [show eqB 0 0 = true from eqB_same 0] at hz
    have HO := Lib.hid (fun w => rof_zero s t a w)
    refine enter fun u => ?_
    go_enter Try.func3, Try.ntmps3
    go_wp2_with (first
      | ((with_reducible apply list_box); exact rfl; intro _ _)
      | ((with_reducible apply ls_alloc); infer_instance; intro _ _)
      | ((with_reducible apply ls_load); exact rfl; infer_instance; infer_instance)
      | ((with_reducible apply ls_store); exact rfl; exact rfl; infer_instance; infer_instance; infer_instance; intro _)
      | (go_at_call 7; (with_reducible refine (HO.out _).mono ?_); rintro e w' ⟨rfl, hb'⟩; obtain ⟨_, rfl⟩ := KW.go _ hb'; clear hb')
      | (go_at_call 8; (with_reducible refine (HW.out _).mono ?_); rintro e w' ⟨rfl, hb'⟩; obtain ⟨_, rfl⟩ := KW.go _ hb'; clear hb'))
    refine region (by kernel_rfl) (by kernel_rfl) fun _ => ?_
    refine QQ.out ?_
    repeat (first
      | ((with_reducible apply qq_skip); (exact rfl); (try simp only [Act.put, List.setIfInBounds_toArray, List.set_cons_succ, List.set_cons_zero]))
      | ((with_reducible apply qq_load); exact rfl; infer_instance; infer_instance; exact rfl; (try simp only [Act.put, List.setIfInBounds_toArray, List.set_cons_succ, List.set_cons_zero]))
      | ((with_reducible apply qq_cell); exact rfl; infer_instance; infer_instance; exact rfl; (try simp only [Act.put, List.setIfInBounds_toArray, List.set_cons_succ, List.set_cons_zero]))
      | ((with_reducible apply qq_W_0 (n := 1)); exact rfl; exact lit_B (by omega); exact rfl; (try simp only [Act.put, List.setIfInBounds_toArray, List.set_cons_succ, List.set_cons_zero]))
      | ((with_reducible apply qq_Ratio); exact rfl; exact rfl; exact rfl; (try simp only [Act.put, List.setIfInBounds_toArray, List.set_cons_succ, List.set_cons_zero]))
      | ((with_reducible apply qq_callf (f := 9)); (intro _; go_simp; try exact rfl); (with_reducible exact fun u => HS.out _); exact rfl; (try simp only [Act.put, List.setIfInBounds_toArray, List.set_cons_succ, List.set_cons_zero]))
      | ((with_reducible apply qq_value); (intro _; go_simp; try exact rfl); exact rfl; (try simp only [Act.put, List.setIfInBounds_toArray, List.set_cons_succ, List.set_cons_zero])))
    refine qq_nil ?_
    rintro _ ⟨u7, rfl⟩
    go_wp2_with (first
      | ((with_reducible apply ls_load); exact rfl; infer_instance; infer_instance)
      | ((with_reducible apply lsg_load); rfl; exact rfl; infer_instance; infer_instance)
      | (with_reducible apply ls_W0)
      | ((with_reducible apply ls_Ratio_))
      | ((with_reducible apply lsg_Ratio_); exact rfl)
      | (go_at_call 10; (with_reducible refine (HA.out _).mono ?_); rintro e w' ⟨rfl, hb'⟩; obtain ⟨_, rfl⟩ := KW.go _ hb'; clear hb'))
    go_ret
    exact ⟨rfl, KW.below _⟩
  · rw [show eqB b 0 = false from decide_eq_false h0] at hz
    obtain ⟨r, hr⟩ : ∃ r, r = (s != t) := ⟨_, rfl⟩
    have HO := fun w => rof_some s t a b ha hb (by omega) w
    have HL := fun w => reflow_any r a b ha hb (by omega) w
    rw [← hr] at HO
    obtain ⟨p, m, y, hV, hm, hy⟩ := lowV_is r a b ha.out hb.out
    rw [hV] at HO HL
    clear hV
    have M1 := fun w => rmay_any s a b ha hb w
    have M2 := fun w => refmay_any s a b ha hb w
    have M3 := fun w => rmay_any p m y hm hy w
    have M4 := fun w => refmay_any p m y hm hy w
    generalize mayB s a b = q1 at *
    generalize mayB p m y = q2 at *
    replace HO := Lib.hid HO
    replace HL := Lib.hid HL
    replace M1 := Lib.hid M1
    replace M2 := Lib.hid M2
    replace M3 := Lib.hid M3
    replace M4 := Lib.hid M4
    clear h0
    cases s <;> cases t
    all_goals (
      first | (obtain rfl : r = true := hr) | (obtain rfl : r = false := hr)
      refine enter fun u => ?_
      go_enter Try.func3, Try.ntmps3
      go_wp2_with (first
        | ((with_reducible apply list_box); exact rfl; intro _ _)
        | ((with_reducible apply ls_alloc); infer_instance; intro _ _)
        | ((with_reducible apply ls_load); exact rfl; infer_instance; infer_instance)
        | ((with_reducible apply ls_store); exact rfl; exact rfl; infer_instance; infer_instance; infer_instance; intro _)
        | (go_at_call 7; (with_reducible refine (HO.out _).mono ?_); rintro e w' ⟨rfl, hb'⟩; obtain ⟨_, rfl⟩ := KW.go _ hb'; clear hb')
        | (go_at_call 8; (with_reducible refine (HW.out _).mono ?_); rintro e w' ⟨rfl, hb'⟩; obtain ⟨_, rfl⟩ := KW.go _ hb'; clear hb'))
      refine region (by kernel_rfl) (by kernel_rfl) fun _ => ?_
      refine QQ.out ?_
      repeat (first
        | ((with_reducible apply qq_skip); (exact rfl); (try simp only [Act.put, List.setIfInBounds_toArray, List.set_cons_succ, List.set_cons_zero]))
        | ((with_reducible apply qq_load); exact rfl; infer_instance; infer_instance; exact rfl; (try simp only [Act.put, List.setIfInBounds_toArray, List.set_cons_succ, List.set_cons_zero]))
        | ((with_reducible apply qq_cell); exact rfl; infer_instance; infer_instance; exact rfl; (try simp only [Act.put, List.setIfInBounds_toArray, List.set_cons_succ, List.set_cons_zero]))
        | ((with_reducible apply qq_W_0 (n := 1)); exact rfl; exact lit_B (by omega); exact rfl; (try simp only [Act.put, List.setIfInBounds_toArray, List.set_cons_succ, List.set_cons_zero]))
        | ((with_reducible apply qq_Ratio); exact rfl; exact rfl; exact rfl; (try simp only [Act.put, List.setIfInBounds_toArray, List.set_cons_succ, List.set_cons_zero]))
        | ((with_reducible apply qq_callf (f := 9)); (intro _; go_simp; try exact rfl); (with_reducible exact fun u => HS.out _); exact rfl; (try simp only [Act.put, List.setIfInBounds_toArray, List.set_cons_succ, List.set_cons_zero]))
        | ((with_reducible apply qq_value); (intro _; go_simp; try exact rfl); exact rfl; (try simp only [Act.put, List.setIfInBounds_toArray, List.set_cons_succ, List.set_cons_zero])))
      refine qq_nil ?_
      rintro _ ⟨u7, rfl⟩
      go_wp2_with (first
        | ((with_reducible apply ls_alloc); infer_instance; intro _ _)
        | ((with_reducible apply ls_load); exact rfl; infer_instance; infer_instance)
        | ((with_reducible apply ls_store); exact rfl; exact rfl; infer_instance; infer_instance; infer_instance; intro _)
        | (with_reducible apply ls_W0)
        | ((with_reducible apply ls_I); exact rfl; exact rfl)
        | ((with_reducible apply ls_Ratio); exact rfl; exact rfl)
        | (go_at_call 11; (with_reducible refine (HL.out _).mono ?_); rintro e w' ⟨rfl, hb'⟩; obtain ⟨_, rfl⟩ := KW.go _ hb'; clear hb'))
      refine region (by kernel_rfl) (by kernel_rfl) fun _ => ?_
      refine QQ.out ?_
      repeat (first
        | ((with_reducible apply qq_skip); (exact rfl); (try simp only [Act.put, List.setIfInBounds_toArray, List.set_cons_succ, List.set_cons_zero]))
        | ((with_reducible apply qq_load); exact rfl; infer_instance; infer_instance; exact rfl; (try simp only [Act.put, List.setIfInBounds_toArray, List.set_cons_succ, List.set_cons_zero]))
        | ((with_reducible apply qq_cell); exact rfl; infer_instance; infer_instance; exact rfl; (try simp only [Act.put, List.setIfInBounds_toArray, List.set_cons_succ, List.set_cons_zero]))
        | ((with_reducible apply qq_callf (f := 12)); (intro _; go_simp; try exact rfl); (with_reducible exact fun u => M1.out _); exact rfl; (try simp only [Act.put, List.setIfInBounds_toArray, List.set_cons_succ, List.set_cons_zero]))
        | ((with_reducible apply qq_callf (f := 13)); (intro _; go_simp; try exact rfl); (with_reducible exact fun u => M2.out _); exact rfl; (try simp only [Act.put, List.setIfInBounds_toArray, List.set_cons_succ, List.set_cons_zero]))
        | ((with_reducible apply qq_callf (f := 12)); (intro _; go_simp; try exact rfl); (with_reducible exact fun u => M3.out _); exact rfl; (try simp only [Act.put, List.setIfInBounds_toArray, List.set_cons_succ, List.set_cons_zero]))
        | ((with_reducible apply qq_callf (f := 13)); (intro _; go_simp; try exact rfl); (with_reducible exact fun u => M4.out _); exact rfl; (try simp only [Act.put, List.setIfInBounds_toArray, List.set_cons_succ, List.set_cons_zero]))
        | ((with_reducible apply qq_callf (f := 10)); (intro _; go_simp; try exact rfl); (with_reducible exact fun u => HA.out _); exact rfl; (try simp only [Act.put, List.setIfInBounds_toArray, List.set_cons_succ, List.set_cons_zero]))
        | ((with_reducible apply qq_value); (intro _; go_simp; try exact rfl); exact rfl; (try simp only [Act.put, List.setIfInBounds_toArray, List.set_cons_succ, List.set_cons_zero])))
      refine qq_nil ?_
      rintro _ ⟨u8, rfl⟩
      go_wp2_with (fail)
      go_ret
      exact ⟨rfl, KW.below _⟩)
end Go.Proofs.Ytpcbnciihohdjaa.RatW
