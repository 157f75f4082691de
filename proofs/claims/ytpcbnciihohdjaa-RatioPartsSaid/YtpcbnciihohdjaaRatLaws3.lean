/-
  The walk of the law RatioParts.
-/
import Derived.Test.YtpcbnciihohdjaaRatLaws
namespace Go.Proofs.Ytpcbnciihohdjaa.RatW
open Go.RowKit
open DigM WideM WideV KM DigW WideW QuotW QuotM DecM FmtW SignM SignW
instance cell4_0 (x y z v : Value) : CellV Try.prog 3 #[x, y, z, v] 0 x := ⟨scalInt, rfl⟩
instance cell4_1 (x y z v : Value) : CellV Try.prog 3 #[x, y, z, v] 1 y := ⟨scalInt, rfl⟩
instance cell4_2 (x y z v : Value) : CellV Try.prog 3 #[x, y, z, v] 2 z := ⟨scalInt, rfl⟩
instance cell4_3 (x y z v : Value) : CellV Try.prog 3 #[x, y, z, v] 3 v := ⟨scalInt, rfl⟩
abbrev av4 (n k d m : Int) : Value := .agg #[.int .i64 n, .int .i64 k, .int .i64 d, .int .i64 m]
set_option maxRecDepth 100000 in
set_option maxHeartbeats 6400000 in
theorem ratioParts_no (n k d m : Int) (h : partB n k d = false) (w : World) : Calls Try.prog 5 #[av4 n k d m] w (TrueAt6 w) := by
  have HW := Lib.hid (fun w => awake6_any w)
  have HP := Lib.hid (fun w => part_no n k d h w)
  have h := of_decide_eq_false h
  by_cases c1 : n < 0
  · have b1 : decide (n < 0) = true := decide_eq_true c1
    clear h c1
    refine enter fun u => ?_
    go_enter Try.func5, Try.ntmps5
    go_wp2_with (first
      | ((with_reducible apply list_box); exact rfl; intro _ _))
    refine region (by kernel_rfl) (by kernel_rfl) fun _ => ?_
    refine QQ.out ?_
    repeat (first
      | ((with_reducible apply qq_skip); (exact rfl); (try simp only [Act.put, List.setIfInBounds_toArray, List.set_cons_succ, List.set_cons_zero]))
      | ((with_reducible apply qq_load); exact rfl; infer_instance; infer_instance; exact rfl; (try simp only [Act.put, List.setIfInBounds_toArray, List.set_cons_succ, List.set_cons_zero]))
      | ((with_reducible apply qq_cell); exact rfl; infer_instance; infer_instance; exact rfl; (try simp only [Act.put, List.setIfInBounds_toArray, List.set_cons_succ, List.set_cons_zero]))
      | ((with_reducible apply qq_value); (intro _; go_simp; try exact rfl); exact rfl; (try simp only [Act.put, List.setIfInBounds_toArray, List.set_cons_succ, List.set_cons_zero])))
    refine qq_nil ?_
    rintro _ ⟨u7, rfl⟩
    go_wp2_with (first
      | (go_at_call 25; (with_reducible refine (HP.out _).mono ?_); rintro e w' ⟨rfl, hb'⟩; obtain ⟨_, rfl⟩ := KW.go _ hb'; clear hb')
      | (go_at_call 10; (with_reducible refine (HW.out _).mono ?_); rintro e w' ⟨rfl, hb'⟩; obtain ⟨_, rfl⟩ := KW.go _ hb'; clear hb'))
    go_ret
    exact ⟨rfl, KW.below _⟩
  have b1 : decide (n < 0) = false := decide_eq_false c1
  by_cases c2 : k < 0
  · have b2 : decide (k < 0) = true := decide_eq_true c2
    clear h c1 c2
    refine enter fun u => ?_
    go_enter Try.func5, Try.ntmps5
    go_wp2_with (first
      | ((with_reducible apply list_box); exact rfl; intro _ _))
    refine region (by kernel_rfl) (by kernel_rfl) fun _ => ?_
    refine QQ.out ?_
    repeat (first
      | ((with_reducible apply qq_skip); (exact rfl); (try simp only [Act.put, List.setIfInBounds_toArray, List.set_cons_succ, List.set_cons_zero]))
      | ((with_reducible apply qq_load); exact rfl; infer_instance; infer_instance; exact rfl; (try simp only [Act.put, List.setIfInBounds_toArray, List.set_cons_succ, List.set_cons_zero]))
      | ((with_reducible apply qq_cell); exact rfl; infer_instance; infer_instance; exact rfl; (try simp only [Act.put, List.setIfInBounds_toArray, List.set_cons_succ, List.set_cons_zero]))
      | ((with_reducible apply qq_value); (intro _; go_simp; try exact rfl); exact rfl; (try simp only [Act.put, List.setIfInBounds_toArray, List.set_cons_succ, List.set_cons_zero])))
    refine qq_nil ?_
    rintro _ ⟨u7, rfl⟩
    go_wp2_with (first
      | (go_at_call 25; (with_reducible refine (HP.out _).mono ?_); rintro e w' ⟨rfl, hb'⟩; obtain ⟨_, rfl⟩ := KW.go _ hb'; clear hb')
      | (go_at_call 10; (with_reducible refine (HW.out _).mono ?_); rintro e w' ⟨rfl, hb'⟩; obtain ⟨_, rfl⟩ := KW.go _ hb'; clear hb'))
    go_ret
    exact ⟨rfl, KW.below _⟩
  have b2 : decide (k < 0) = false := decide_eq_false c2
  by_cases c3 : d ≤ 0
  · have b3 : decide (d ≤ 0) = true := decide_eq_true c3
    clear h c1 c2 c3
    refine enter fun u => ?_
    go_enter Try.func5, Try.ntmps5
    go_wp2_with (first
      | ((with_reducible apply list_box); exact rfl; intro _ _))
    refine region (by kernel_rfl) (by kernel_rfl) fun _ => ?_
    refine QQ.out ?_
    repeat (first
      | ((with_reducible apply qq_skip); (exact rfl); (try simp only [Act.put, List.setIfInBounds_toArray, List.set_cons_succ, List.set_cons_zero]))
      | ((with_reducible apply qq_load); exact rfl; infer_instance; infer_instance; exact rfl; (try simp only [Act.put, List.setIfInBounds_toArray, List.set_cons_succ, List.set_cons_zero]))
      | ((with_reducible apply qq_cell); exact rfl; infer_instance; infer_instance; exact rfl; (try simp only [Act.put, List.setIfInBounds_toArray, List.set_cons_succ, List.set_cons_zero]))
      | ((with_reducible apply qq_value); (intro _; go_simp; try exact rfl); exact rfl; (try simp only [Act.put, List.setIfInBounds_toArray, List.set_cons_succ, List.set_cons_zero])))
    refine qq_nil ?_
    rintro _ ⟨u7, rfl⟩
    go_wp2_with (first
      | (go_at_call 25; (with_reducible refine (HP.out _).mono ?_); rintro e w' ⟨rfl, hb'⟩; obtain ⟨_, rfl⟩ := KW.go _ hb'; clear hb')
      | (go_at_call 10; (with_reducible refine (HW.out _).mono ?_); rintro e w' ⟨rfl, hb'⟩; obtain ⟨_, rfl⟩ := KW.go _ hb'; clear hb'))
    go_ret
    exact ⟨rfl, KW.below _⟩
  have b3 : decide (d ≤ 0) = false := decide_eq_false c3
  have b4 : decide (d < k) = true := decide_eq_true (by omega)
  clear h c1 c2 c3
  refine enter fun u => ?_
  go_enter Try.func5, Try.ntmps5
  go_wp2_with (first
    | ((with_reducible apply list_box); exact rfl; intro _ _))
  refine region (by kernel_rfl) (by kernel_rfl) fun _ => ?_
  refine QQ.out ?_
  repeat (first
    | ((with_reducible apply qq_skip); (exact rfl); (try simp only [Act.put, List.setIfInBounds_toArray, List.set_cons_succ, List.set_cons_zero]))
    | ((with_reducible apply qq_load); exact rfl; infer_instance; infer_instance; exact rfl; (try simp only [Act.put, List.setIfInBounds_toArray, List.set_cons_succ, List.set_cons_zero]))
    | ((with_reducible apply qq_cell); exact rfl; infer_instance; infer_instance; exact rfl; (try simp only [Act.put, List.setIfInBounds_toArray, List.set_cons_succ, List.set_cons_zero]))
    | ((with_reducible apply qq_value); (intro _; go_simp; try exact rfl); exact rfl; (try simp only [Act.put, List.setIfInBounds_toArray, List.set_cons_succ, List.set_cons_zero])))
  refine qq_nil ?_
  rintro _ ⟨u7, rfl⟩
  go_wp2_with (first
    | (go_at_call 25; (with_reducible refine (HP.out _).mono ?_); rintro e w' ⟨rfl, hb'⟩; obtain ⟨_, rfl⟩ := KW.go _ hb'; clear hb')
    | (go_at_call 10; (with_reducible refine (HW.out _).mono ?_); rintro e w' ⟨rfl, hb'⟩; obtain ⟨_, rfl⟩ := KW.go _ hb'; clear hb'))
  go_ret
  exact ⟨rfl, KW.below _⟩
set_option maxRecDepth 100000 in
set_option maxHeartbeats 6400000 in
theorem ratioParts_yes (n k d : Nat) (m : Int) (hn : n ≤ 9223372036854775807) (hd : d ≤ 9223372036854775807) (hd0 : 0 < d) (hk : k ≤ d) (w : World) : Calls Try.prog 5 #[av4 n k d m] w (TrueAt6 w) := by
  have HW := Lib.hid (fun w => awake6_any w)
  have HP := fun w => part_yes n k d hn hd hd0 hk w
  have HR := fun w => refpart_any n k d hn hd hd0 hk w
  have H0 : ∀ w, Calls Try.prog 25 #[.int .i64 (n : Nat), .int .i64 0, .int .i64 (d : Nat)] w (Ret (.tuple #[.int .i64 0, .int .i64 0]) w) := fun w => by
    have := part_yes n 0 d hn hd hd0 (by omega) w
    rw [Nat.mul_zero, Nat.zero_div] at this
    exact this
  have H1 : ∀ w, Calls Try.prog 25 #[.int .i64 (n : Nat), .int .i64 (d : Nat), .int .i64 (d : Nat)] w (Ret (.tuple #[.int .i64 (n : Nat), .int .i64 0]) w) := fun w => by
    have := part_yes n d d hn hd hd0 (by omega) w
    rw [Nat.mul_div_cancel _ hd0] at this
    exact this
  have hle := RatM.part_le (n := n) hk
  have key : ∃ y E : Int, Hid (∀ w, Calls Try.prog 25 #[.int .i64 (n : Nat), .int .i64 m, .int .i64 (d : Nat)] w (Ret (.tuple #[.int .i64 y, .int .i64 E]) w)) ∧ (E = 1 ∨ (E = 0 ∧ (m < (k : Int) ∨ ((n * k / d : Nat) : Int) ≤ y))) := by
    cases hB : partB n m d with
    | false => exact ⟨_, _, Lib.hid fun w => part_no n m d hB w, Or.inl rfl⟩
    | true =>
      have := of_decide_eq_true hB
      obtain ⟨m', rfl⟩ : ∃ m' : Nat, m = m' := ⟨m.toNat, by omega⟩
      refine ⟨_, _, Lib.hid fun w => part_yes n m' d hn hd hd0 (by omega) w, Or.inr ⟨rfl, ?_⟩⟩
      by_cases hm : m' < k
      · left; omega
      · right
        have := RatM.part_mono (n := n) (den := d) (show k ≤ m' by omega)
        omega
  obtain ⟨y, E, HM, hE⟩ := key
  generalize n * k / d = q at *
  have b1 : decide ((n : Int) < 0) = false := decide_eq_false (by omega)
  have b2 : decide ((k : Int) < 0) = false := decide_eq_false (by omega)
  have b3 : decide ((d : Int) ≤ 0) = false := decide_eq_false (by omega)
  have b4 : decide ((d : Int) < k) = false := decide_eq_false (by omega)
  have b5 : decide ((q : Int) < 0) = false := decide_eq_false (by omega)
  have b6 : decide ((n : Int) < q) = false := decide_eq_false (by omega)
  clear hn hd hd0 hk hle
  generalize (n : Int) = N at *
  generalize (k : Int) = K at *
  generalize (d : Int) = D at *
  generalize (q : Int) = X at *
  replace HP := Lib.hid HP
  replace HR := Lib.hid HR
  replace H0 := Lib.hid H0
  replace H1 := Lib.hid H1
  rcases hE with rfl | ⟨rfl, hm | hm⟩
  · refine enter fun u => ?_
    go_enter Try.func5, Try.ntmps5
    go_wp2_with (first
      | ((with_reducible apply list_box); exact rfl; intro _ _))
    refine region (by kernel_rfl) (by kernel_rfl) fun _ => ?_
    refine QQ.out ?_
    repeat (first
      | ((with_reducible apply qq_skip); (exact rfl); (try simp only [Act.put, List.setIfInBounds_toArray, List.set_cons_succ, List.set_cons_zero]))
      | ((with_reducible apply qq_load); exact rfl; infer_instance; infer_instance; exact rfl; (try simp only [Act.put, List.setIfInBounds_toArray, List.set_cons_succ, List.set_cons_zero]))
      | ((with_reducible apply qq_cell); exact rfl; infer_instance; infer_instance; exact rfl; (try simp only [Act.put, List.setIfInBounds_toArray, List.set_cons_succ, List.set_cons_zero]))
      | ((with_reducible apply qq_value); (intro _; go_simp; try exact rfl); exact rfl; (try simp only [Act.put, List.setIfInBounds_toArray, List.set_cons_succ, List.set_cons_zero])))
    refine qq_nil ?_
    rintro _ ⟨u7, rfl⟩
    go_wp2_with (first
      | (go_at_call 25; (with_reducible refine (HP.out _).mono ?_); rintro e w' ⟨rfl, hb'⟩; obtain ⟨_, rfl⟩ := KW.go _ hb'; clear hb')
      | (go_at_call 25; (with_reducible refine (H0.out _).mono ?_); rintro e w' ⟨rfl, hb'⟩; obtain ⟨_, rfl⟩ := KW.go _ hb'; clear hb')
      | (go_at_call 25; (with_reducible refine (H1.out _).mono ?_); rintro e w' ⟨rfl, hb'⟩; obtain ⟨_, rfl⟩ := KW.go _ hb'; clear hb')
      | (go_at_call 25; (with_reducible refine (HM.out _).mono ?_); rintro e w' ⟨rfl, hb'⟩; obtain ⟨_, rfl⟩ := KW.go _ hb'; clear hb')
      | (go_at_call 26; (with_reducible refine (HR.out _).mono ?_); rintro e w' ⟨rfl, hb'⟩; obtain ⟨_, rfl⟩ := KW.go _ hb'; clear hb')
      | (go_at_call 10; (with_reducible refine (HW.out _).mono ?_); rintro e w' ⟨rfl, hb'⟩; obtain ⟨_, rfl⟩ := KW.go _ hb'; clear hb'))
    go_ret
    exact ⟨rfl, KW.below _⟩
  · have b7 : decide (m < K) = true := decide_eq_true hm
    clear hm
    refine enter fun u => ?_
    go_enter Try.func5, Try.ntmps5
    go_wp2_with (first
      | ((with_reducible apply list_box); exact rfl; intro _ _))
    refine region (by kernel_rfl) (by kernel_rfl) fun _ => ?_
    refine QQ.out ?_
    repeat (first
      | ((with_reducible apply qq_skip); (exact rfl); (try simp only [Act.put, List.setIfInBounds_toArray, List.set_cons_succ, List.set_cons_zero]))
      | ((with_reducible apply qq_load); exact rfl; infer_instance; infer_instance; exact rfl; (try simp only [Act.put, List.setIfInBounds_toArray, List.set_cons_succ, List.set_cons_zero]))
      | ((with_reducible apply qq_cell); exact rfl; infer_instance; infer_instance; exact rfl; (try simp only [Act.put, List.setIfInBounds_toArray, List.set_cons_succ, List.set_cons_zero]))
      | ((with_reducible apply qq_value); (intro _; go_simp; try exact rfl); exact rfl; (try simp only [Act.put, List.setIfInBounds_toArray, List.set_cons_succ, List.set_cons_zero])))
    refine qq_nil ?_
    rintro _ ⟨u7, rfl⟩
    go_wp2_with (first
      | (go_at_call 25; (with_reducible refine (HP.out _).mono ?_); rintro e w' ⟨rfl, hb'⟩; obtain ⟨_, rfl⟩ := KW.go _ hb'; clear hb')
      | (go_at_call 25; (with_reducible refine (H0.out _).mono ?_); rintro e w' ⟨rfl, hb'⟩; obtain ⟨_, rfl⟩ := KW.go _ hb'; clear hb')
      | (go_at_call 25; (with_reducible refine (H1.out _).mono ?_); rintro e w' ⟨rfl, hb'⟩; obtain ⟨_, rfl⟩ := KW.go _ hb'; clear hb')
      | (go_at_call 25; (with_reducible refine (HM.out _).mono ?_); rintro e w' ⟨rfl, hb'⟩; obtain ⟨_, rfl⟩ := KW.go _ hb'; clear hb')
      | (go_at_call 26; (with_reducible refine (HR.out _).mono ?_); rintro e w' ⟨rfl, hb'⟩; obtain ⟨_, rfl⟩ := KW.go _ hb'; clear hb')
      | (go_at_call 10; (with_reducible refine (HW.out _).mono ?_); rintro e w' ⟨rfl, hb'⟩; obtain ⟨_, rfl⟩ := KW.go _ hb'; clear hb'))
    go_ret
    exact ⟨rfl, KW.below _⟩
  · have b8 : decide (X ≤ y) = true := decide_eq_true hm
    clear hm
    obtain ⟨p, b7⟩ : ∃ p, decide (m < K) = p := ⟨_, rfl⟩
    cases p
    all_goals (
      refine enter fun u => ?_
      go_enter Try.func5, Try.ntmps5
      go_wp2_with (first
        | ((with_reducible apply list_box); exact rfl; intro _ _))
      refine region (by kernel_rfl) (by kernel_rfl) fun _ => ?_
      refine QQ.out ?_
      repeat (first
        | ((with_reducible apply qq_skip); (exact rfl); (try simp only [Act.put, List.setIfInBounds_toArray, List.set_cons_succ, List.set_cons_zero]))
        | ((with_reducible apply qq_load); exact rfl; infer_instance; infer_instance; exact rfl; (try simp only [Act.put, List.setIfInBounds_toArray, List.set_cons_succ, List.set_cons_zero]))
        | ((with_reducible apply qq_cell); exact rfl; infer_instance; infer_instance; exact rfl; (try simp only [Act.put, List.setIfInBounds_toArray, List.set_cons_succ, List.set_cons_zero]))
        | ((with_reducible apply qq_value); (intro _; go_simp; try exact rfl); exact rfl; (try simp only [Act.put, List.setIfInBounds_toArray, List.set_cons_succ, List.set_cons_zero])))
      refine qq_nil ?_
      rintro _ ⟨u7, rfl⟩
      go_wp2_with (first
        | (go_at_call 25; (with_reducible refine (HP.out _).mono ?_); rintro e w' ⟨rfl, hb'⟩; obtain ⟨_, rfl⟩ := KW.go _ hb'; clear hb')
        | (go_at_call 25; (with_reducible refine (H0.out _).mono ?_); rintro e w' ⟨rfl, hb'⟩; obtain ⟨_, rfl⟩ := KW.go _ hb'; clear hb')
        | (go_at_call 25; (with_reducible refine (H1.out _).mono ?_); rintro e w' ⟨rfl, hb'⟩; obtain ⟨_, rfl⟩ := KW.go _ hb'; clear hb')
        | (go_at_call 25; (with_reducible refine (HM.out _).mono ?_); rintro e w' ⟨rfl, hb'⟩; obtain ⟨_, rfl⟩ := KW.go _ hb'; clear hb')
        | (go_at_call 26; (with_reducible refine (HR.out _).mono ?_); rintro e w' ⟨rfl, hb'⟩; obtain ⟨_, rfl⟩ := KW.go _ hb'; clear hb')
        | (go_at_call 10; (with_reducible refine (HW.out _).mono ?_); rintro e w' ⟨rfl, hb'⟩; obtain ⟨_, rfl⟩ := KW.go _ hb'; clear hb'))
      go_ret
      exact ⟨rfl, KW.below _⟩)
theorem ratioParts_walk (n k d m : Int) (_h1 : -9223372036854775808 ≤ n) (h2 : n ≤ 9223372036854775807) (h3 : d ≤ 9223372036854775807) (w : World) : Calls Try.prog 5 #[av4 n k d m] w (TrueAt6 w) := by
  cases h : partB n k d with
  | false => exact ratioParts_no n k d m h w
  | true =>
    have := of_decide_eq_true h
    obtain ⟨n', rfl⟩ : ∃ n' : Nat, n = n' := ⟨n.toNat, by omega⟩
    obtain ⟨k', rfl⟩ : ∃ k' : Nat, k = k' := ⟨k.toNat, by omega⟩
    obtain ⟨d', rfl⟩ : ∃ d' : Nat, d = d' := ⟨d.toNat, by omega⟩
    exact ratioParts_yes n' k' d' m (by omega) (by omega) (by omega) (by omega) w
end Go.Proofs.Ytpcbnciihohdjaa.RatW
