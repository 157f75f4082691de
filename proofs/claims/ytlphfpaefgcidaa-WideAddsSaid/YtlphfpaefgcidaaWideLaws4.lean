/-
  The walk of the law WideBack.
-/
import Derived.Test.YtlphfpaefgcidaaWideLaws3
namespace Go.Proofs.Ytlphfpaefgcidaa.WideW
open Go.RowKit
open DigM WideM WideV KM DigW
theorem bitZ_sh (a : Nat) (z y : Int) : bitZ (shN a z) y = (decide (0 ≤ y) && (decide (y < 512) && bitZ a (y - z))) := by
  unfold bitZ
  by_cases h : 0 ≤ y
  · obtain ⟨i, rfl⟩ : ∃ i : Nat, y = i := ⟨y.toNat, by omega⟩
    rw [Int.toNat_natCast, shN_bit]
    have : decide ((i : Int) < 512) = decide (i < 512) := decide_eq_decide.2 (by omega)
    rw [this]
    rfl
  · rw [decide_eq_false h]; rfl
theorem sh_up (a : Nat) (n m : Nat) : shN (shN a n) m = shN a ((n : Int) + m) := by
  refine ext_bits fun i => ?_
  rw [shN_bit, shN_bit, bitZ_sh]
  by_cases h : i < 512
  · rw [decide_eq_true h, Bool.true_and, Bool.true_and]
    rw [show (i : Int) - m - n = (i : Int) - (n + m) by omega]
    by_cases h0 : (0 : Int) ≤ (i : Int) - m
    · rw [decide_eq_true h0, decide_eq_true (by omega)]; simp
    · rw [decide_eq_false h0, Bool.false_and]
      unfold bitZ
      rw [decide_eq_false (by omega)]; rfl
  · rw [decide_eq_false h, Bool.false_and, Bool.false_and]
theorem sh_down {a : Nat} (ha : a < M) (n m : Nat) : shN (shN a (-(n : Int))) (-(m : Int)) = shN a (-(n : Int) - m) := by
  refine ext_bits fun i => ?_
  rw [shN_bit, shN_bit, bitZ_sh]
  rw [show (i : Int) - -(m : Int) - -(n : Int) = (i : Int) - (-(n : Int) - m) by omega]
  by_cases h : i < 512
  · rw [decide_eq_true h, Bool.true_and, Bool.true_and, decide_eq_true (show (0 : Int) ≤ (i : Int) - -(m : Int) by omega), Bool.true_and]
    by_cases h0 : (i : Int) - -(m : Int) < 512
    · rw [decide_eq_true h0, Bool.true_and]
    · rw [decide_eq_false h0, Bool.false_and]
      exact (bit_no ha (.inr (by omega))).symm
  · rw [decide_eq_false h, Bool.false_and, Bool.false_and]
theorem bl_bit {a i : Nat} (h : bl a ≤ i) : a.testBit i = false :=
  Nat.testBit_lt_two_pow (Nat.lt_of_lt_of_le (bl_BL a).1 (Nat.pow_le_pow_right (by decide) h))
theorem sh_back {a : Nat} (ha : a < M) (n : Nat) (h : bl a + n ≤ 512) : shN (shN a n) (-(n : Int)) = a := by
  refine ext_bits fun i => ?_
  rw [shN_bit, bitZ_sh]
  rw [show (i : Int) - -(n : Int) - n = i by omega]
  rw [decide_eq_true (show (0 : Int) ≤ (i : Int) - -(n : Int) by omega), Bool.true_and]
  have e : bitZ a (i : Int) = a.testBit i := by unfold bitZ; rw [Int.toNat_natCast]; simp
  rw [e]
  by_cases h0 : bl a ≤ i
  · rw [bl_bit h0]; simp
  · rw [decide_eq_true (show i < 512 by omega), decide_eq_true (show (i : Int) - -(n : Int) < 512 by omega)]; rfl
theorem sh_mul {a : Nat} (n : Nat) (h : bl a + n ≤ 512) : shN a n = a * 2 ^ n := by
  refine ext_bits fun i => ?_
  rw [shN_bit, ← Nat.shiftLeft_eq, Nat.testBit_shiftLeft]
  by_cases hn : n ≤ i
  · have e : bitZ a ((i : Int) - n) = a.testBit (i - n) := by
      unfold bitZ
      rw [decide_eq_true (by omega), show ((i : Int) - n).toNat = i - n by omega]; rfl
    rw [e, decide_eq_true hn, Bool.true_and]
    by_cases h5 : i < 512
    · rw [decide_eq_true h5, Bool.true_and]
    · rw [bl_bit (show bl a ≤ i - n by omega)]; simp
  · have e : bitZ a ((i : Int) - n) = false := by
      unfold bitZ
      rw [decide_eq_false (by omega)]; rfl
    rw [e, decide_eq_false hn]; simp
theorem bl_sh {a : Nat} (n : Nat) (h : bl a + n ≤ 512) (h0 : a ≠ 0) : bl (shN a n) = bl a + n := by
  rw [sh_mul n h]
  obtain ⟨h1, h2⟩ := bl_BL a
  have hp : 0 < bl a := Nat.pos_of_ne_zero fun e => by rw [e] at h1; simp at h1; exact h0 h1
  refine bl_of ⟨?_, fun _ => ?_⟩
  · rw [Nat.pow_add]
    exact Nat.mul_lt_mul_of_pos_right h1 (Nat.two_pow_pos n)
  · rw [show bl a + n - 1 = (bl a - 1) + n by omega, Nat.pow_add]
    exact Nat.mul_le_mul_right _ (h2 hp)
theorem sh_is (a : Nat) (z : Int) (s : Nat) (ha : Hid (a < M)) (h1 : -2000 ≤ z) (h2 : z ≤ 2000) (h : shN a z = s) : Hid (∀ w, Calls Try.prog 19 #[wv a, .int .i64 z] w (Ret (wv s) w)) := by
  subst h
  exact Lib.hid fun w => wshift_any a z (by omega) (by omega) ha w
theorem shH (a : Nat) (z : Int) : Hid (shN a z < M) := Lib.hid (shN_lt a z)
set_option maxRecDepth 100000 in
set_option maxHeartbeats 3200000 in
theorem wideBack_not (a x y n m : Nat) (w : World) (ha : Hid (a < M)) (hx6 : x < 65536) (hy6 : y < 65536) (hn : x % 600 = n) (hm : y % 600 = m) (hf : ¬ bl a + n ≤ 512) :
    Calls Try.prog 6 #[wv a, .int .u16 x, .int .u16 y] w (TrueAt3 w) := by
  have hn6 : n < 600 := by omega
  have hm6 : m < 600 := by omega
  have F1 := sh_is a n _ ha (by omega) (by omega) rfl
  have F2 := sh_is (shN a n) m (shN a ((n : Int) + m)) (shH _ _) (by omega) (by omega) (sh_up a n m)
  have F3 := sh_is a ((n : Int) + m) _ ha (by omega) (by omega) rfl
  have F4 := sh_is a (-(n : Int)) _ ha (by omega) (by omega) rfl
  have F5 := sh_is (shN a (-(n : Int))) (-(m : Int)) (shN a (-(n : Int) - m)) (shH _ _) (by omega) (by omega) (sh_down ha.out n m)
  have F6 := sh_is a (-(n : Int) - m) _ ha (by omega) (by omega) rfl
  have FL := Lib.hid (fun w => wlen8_any a ha w)
  have hbl : bl a ≤ 512 := by
    apply Nat.le_of_not_lt
    intro hc
    have h1 := (bl_BL a).2 (by omega)
    have h2 := ha.out
    have h3 := M_le (i := bl a - 1) (by omega)
    omega
  have hfi : 512 < (bl a : Int) + n := by omega
  have hfd : decide ((bl a : Int) + n ≤ 512) = false := decide_eq_false (by omega)
  clear hf
  generalize shN a ((n : Int) + m) = s1 at *
  generalize shN a (-(n : Int) - m) = s2 at *
  generalize shN a (-(n : Int)) = d1 at *
  generalize shN a (n : Int) = up at *
  generalize bl a = l at *
  have hx : (x : Int) % 600 = n := by omega
  have hxi : (x : Int) ≤ 65535 := by omega
  have hyi : (y : Int) ≤ 65535 := by omega
  have hy : (y : Int) % 600 = m := by omega
  have hw1 : IntKind.i64.wrap ((l : Int) + n) = (l : Int) + n := by rw [IntKind.wrap_i64]; omega
  have hw2 : IntKind.i64.wrap (-(n : Int)) = -(n : Int) := by rw [IntKind.wrap_i64]; omega
  have hw3 : IntKind.i64.wrap (-(m : Int)) = -(m : Int) := by rw [IntKind.wrap_i64]; omega
  have hw4 : IntKind.i64.wrap ((n : Int) + m) = (n : Int) + m := by rw [IntKind.wrap_i64]; omega
  have hw5 : IntKind.i64.wrap (-(n : Int) - m) = -(n : Int) - m := by rw [IntKind.wrap_i64]; omega
  clear hn hm hbl hx6 hy6
  refine enter fun u => ?_
  go_enter Try.func6, Try.ntmps6
  go_wp2_with (first
    | ((with_reducible apply list_box); exact rfl; intro _ _)
    | ((with_reducible apply list_alloc); exact zeroW; intro _ _)
    | ((with_reducible apply lst_load); exact rfl; infer_instance; exact rowW; exact cells_size _ _)
    | ((with_reducible apply lst_store); exact rfl; exact rfl; infer_instance; exact rowW; exact cells_size _ _; exact cells_size _ _; exact cells_one _ _; intro _)
    | (go_at_call 19; (with_reducible refine (F1.out _).mono ?_); rintro e w' ⟨rfl, hb'⟩; obtain ⟨_, rfl⟩ := KW.go _ hb'; clear hb'))
  simp only [Act.put, List.setIfInBounds_toArray, List.set_cons_zero, List.set_cons_succ]
  refine region (by kernel_rfl) (by kernel_rfl) fun _ => ?_
  repeat (go_big_quiet_step (first
    | (go_at_call 21; (with_reducible exact call FL.out _))))
  refine wpQuiet_nil ?_
  rintro _ ⟨u', rfl⟩
  go_wp2_with (fail)
  refine region (by kernel_rfl) (by kernel_rfl) fun _ => ?_
  repeat (go_big_quiet_step (first
    | (go_at_call 19; (with_reducible exact call F2.out _))
    | (go_at_call 19; (with_reducible exact call F3.out _))
    | (go_at_call 19; (with_reducible exact call F4.out _))
    | (go_at_call 19; (with_reducible exact call F5.out _))
    | (go_at_call 19; (with_reducible exact call F6.out _))
    | (go_at_call 17; exact call awake_any _)))
  refine wpQuiet_nil ?_
  rintro _ ⟨u', rfl⟩
  go_wp2_with (fail)
  go_ret
  exact ⟨rfl, u'.below⟩
set_option maxRecDepth 100000 in
set_option maxHeartbeats 3200000 in
theorem wideBack_nought (a x y n m : Nat) (w : World) (ha : Hid (a < M)) (hx6 : x < 65536) (hy6 : y < 65536) (hn : x % 600 = n) (hm : y % 600 = m) (hf : bl a + n ≤ 512) (h0 : a = 0) :
    Calls Try.prog 6 #[wv a, .int .u16 x, .int .u16 y] w (TrueAt3 w) := by
  have hn6 : n < 600 := by omega
  have hm6 : m < 600 := by omega
  have F1 := sh_is a n _ ha (by omega) (by omega) rfl
  have F2 := sh_is (shN a n) m (shN a ((n : Int) + m)) (shH _ _) (by omega) (by omega) (sh_up a n m)
  have F3 := sh_is a ((n : Int) + m) _ ha (by omega) (by omega) rfl
  have F4 := sh_is a (-(n : Int)) _ ha (by omega) (by omega) rfl
  have F5 := sh_is (shN a (-(n : Int))) (-(m : Int)) (shN a (-(n : Int) - m)) (shH _ _) (by omega) (by omega) (sh_down ha.out n m)
  have F6 := sh_is a (-(n : Int) - m) _ ha (by omega) (by omega) rfl
  have FL := Lib.hid (fun w => wlen8_any a ha w)
  have hbl : bl a ≤ 512 := by
    apply Nat.le_of_not_lt
    intro hc
    have h1 := (bl_BL a).2 (by omega)
    have h2 := ha.out
    have h3 := M_le (i := bl a - 1) (by omega)
    omega
  have hfi : (bl a : Int) + n ≤ 512 := by omega
  have FB := sh_is (shN a n) (-(n : Int)) a (shH _ _) (by omega) (by omega) (sh_back ha.out n hf)
  have FZ : Hid (∀ w, Calls Try.prog 24 #[wv a] w (Ret (.bool true) w)) := Lib.hid fun w => by
    have := zero_any a ha.out w
    rwa [show eqB a 0 = true from decide_eq_true h0] at this
  clear hf h0
  generalize shN a ((n : Int) + m) = s1 at *
  generalize shN a (-(n : Int) - m) = s2 at *
  generalize shN a (-(n : Int)) = d1 at *
  generalize shN a (n : Int) = up at *
  generalize bl a = l at *
  have hx : (x : Int) % 600 = n := by omega
  have hxi : (x : Int) ≤ 65535 := by omega
  have hyi : (y : Int) ≤ 65535 := by omega
  have hy : (y : Int) % 600 = m := by omega
  have hw1 : IntKind.i64.wrap ((l : Int) + n) = (l : Int) + n := by rw [IntKind.wrap_i64]; omega
  have hw2 : IntKind.i64.wrap (-(n : Int)) = -(n : Int) := by rw [IntKind.wrap_i64]; omega
  have hw3 : IntKind.i64.wrap (-(m : Int)) = -(m : Int) := by rw [IntKind.wrap_i64]; omega
  have hw4 : IntKind.i64.wrap ((n : Int) + m) = (n : Int) + m := by rw [IntKind.wrap_i64]; omega
  have hw5 : IntKind.i64.wrap (-(n : Int) - m) = -(n : Int) - m := by rw [IntKind.wrap_i64]; omega
  clear hn hm hbl hx6 hy6
  refine enter fun u => ?_
  go_enter Try.func6, Try.ntmps6
  go_wp2_with (first
    | ((with_reducible apply list_box); exact rfl; intro _ _)
    | ((with_reducible apply list_alloc); exact zeroW; intro _ _)
    | ((with_reducible apply lst_load); exact rfl; infer_instance; exact rowW; exact cells_size _ _)
    | ((with_reducible apply lst_store); exact rfl; exact rfl; infer_instance; exact rowW; exact cells_size _ _; exact cells_size _ _; exact cells_one _ _; intro _)
    | (go_at_call 19; (with_reducible refine (F1.out _).mono ?_); rintro e w' ⟨rfl, hb'⟩; obtain ⟨_, rfl⟩ := KW.go _ hb'; clear hb'))
  simp only [Act.put, List.setIfInBounds_toArray, List.set_cons_zero, List.set_cons_succ]
  refine region (by kernel_rfl) (by kernel_rfl) fun _ => ?_
  repeat (go_big_quiet_step (first
    | (go_at_call 21; (with_reducible exact call FL.out _))
    | (go_at_call 19; (with_reducible exact call FB.out _))
    | (go_at_call 24; (with_reducible exact call FZ.out _))))
  refine wpQuiet_nil ?_
  rintro _ ⟨u', rfl⟩
  go_wp2_with (fail)
  refine region (by kernel_rfl) (by kernel_rfl) fun _ => ?_
  repeat (go_big_quiet_step (first
    | (go_at_call 19; (with_reducible exact call F2.out _))
    | (go_at_call 19; (with_reducible exact call F3.out _))
    | (go_at_call 19; (with_reducible exact call F4.out _))
    | (go_at_call 19; (with_reducible exact call F5.out _))
    | (go_at_call 19; (with_reducible exact call F6.out _))
    | (go_at_call 17; exact call awake_any _)))
  refine wpQuiet_nil ?_
  rintro _ ⟨u', rfl⟩
  go_wp2_with (fail)
  go_ret
  exact ⟨rfl, u'.below⟩
set_option maxRecDepth 100000 in
set_option maxHeartbeats 3200000 in
theorem wideBack_fit (a x y n m : Nat) (w : World) (ha : Hid (a < M)) (hx6 : x < 65536) (hy6 : y < 65536) (hn : x % 600 = n) (hm : y % 600 = m) (hf : bl a + n ≤ 512) (h0 : a ≠ 0) :
    Calls Try.prog 6 #[wv a, .int .u16 x, .int .u16 y] w (TrueAt3 w) := by
  have hn6 : n < 600 := by omega
  have hm6 : m < 600 := by omega
  have F1 := sh_is a n _ ha (by omega) (by omega) rfl
  have F2 := sh_is (shN a n) m (shN a ((n : Int) + m)) (shH _ _) (by omega) (by omega) (sh_up a n m)
  have F3 := sh_is a ((n : Int) + m) _ ha (by omega) (by omega) rfl
  have F4 := sh_is a (-(n : Int)) _ ha (by omega) (by omega) rfl
  have F5 := sh_is (shN a (-(n : Int))) (-(m : Int)) (shN a (-(n : Int) - m)) (shH _ _) (by omega) (by omega) (sh_down ha.out n m)
  have F6 := sh_is a (-(n : Int) - m) _ ha (by omega) (by omega) rfl
  have FL := Lib.hid (fun w => wlen8_any a ha w)
  have hbl : bl a ≤ 512 := by
    apply Nat.le_of_not_lt
    intro hc
    have h1 := (bl_BL a).2 (by omega)
    have h2 := ha.out
    have h3 := M_le (i := bl a - 1) (by omega)
    omega
  have hfi : (bl a : Int) + n ≤ 512 := by omega
  have FB := sh_is (shN a n) (-(n : Int)) a (shH _ _) (by omega) (by omega) (sh_back ha.out n hf)
  have FZ : Hid (∀ w, Calls Try.prog 24 #[wv a] w (Ret (.bool false) w)) := Lib.hid fun w => by
    have := zero_any a ha.out w
    rwa [show eqB a 0 = false from decide_eq_false h0] at this
  have FU : Hid (∀ w, Calls Try.prog 21 #[wv (shN a n)] w (Ret (.int .i64 ((bl a : Int) + n)) w)) := Lib.hid fun w => by
    have := wlen8_any (shN a n) (shH _ _) w
    rwa [bl_sh n hf h0, show ((bl a + n : Nat) : Int) = (bl a : Int) + n by omega] at this
  clear hf h0
  generalize shN a ((n : Int) + m) = s1 at *
  generalize shN a (-(n : Int) - m) = s2 at *
  generalize shN a (-(n : Int)) = d1 at *
  generalize shN a (n : Int) = up at *
  generalize bl a = l at *
  have hx : (x : Int) % 600 = n := by omega
  have hxi : (x : Int) ≤ 65535 := by omega
  have hyi : (y : Int) ≤ 65535 := by omega
  have hy : (y : Int) % 600 = m := by omega
  have hw1 : IntKind.i64.wrap ((l : Int) + n) = (l : Int) + n := by rw [IntKind.wrap_i64]; omega
  have hw2 : IntKind.i64.wrap (-(n : Int)) = -(n : Int) := by rw [IntKind.wrap_i64]; omega
  have hw3 : IntKind.i64.wrap (-(m : Int)) = -(m : Int) := by rw [IntKind.wrap_i64]; omega
  have hw4 : IntKind.i64.wrap ((n : Int) + m) = (n : Int) + m := by rw [IntKind.wrap_i64]; omega
  have hw5 : IntKind.i64.wrap (-(n : Int) - m) = -(n : Int) - m := by rw [IntKind.wrap_i64]; omega
  clear hn hm hbl hx6 hy6
  refine enter fun u => ?_
  go_enter Try.func6, Try.ntmps6
  go_wp2_with (first
    | ((with_reducible apply list_box); exact rfl; intro _ _)
    | ((with_reducible apply list_alloc); exact zeroW; intro _ _)
    | ((with_reducible apply lst_load); exact rfl; infer_instance; exact rowW; exact cells_size _ _)
    | ((with_reducible apply lst_store); exact rfl; exact rfl; infer_instance; exact rowW; exact cells_size _ _; exact cells_size _ _; exact cells_one _ _; intro _)
    | (go_at_call 19; (with_reducible refine (F1.out _).mono ?_); rintro e w' ⟨rfl, hb'⟩; obtain ⟨_, rfl⟩ := KW.go _ hb'; clear hb'))
  simp only [Act.put, List.setIfInBounds_toArray, List.set_cons_zero, List.set_cons_succ]
  refine region (by kernel_rfl) (by kernel_rfl) fun _ => ?_
  repeat (go_big_quiet_step (first
    | (go_at_call 21; (with_reducible exact call FL.out _))
    | (go_at_call 19; (with_reducible exact call FB.out _))
    | (go_at_call 24; (with_reducible exact call FZ.out _))
    | (go_at_call 21; (with_reducible exact call FU.out _))))
  refine wpQuiet_nil ?_
  rintro _ ⟨u', rfl⟩
  go_wp2_with (fail)
  refine region (by kernel_rfl) (by kernel_rfl) fun _ => ?_
  repeat (go_big_quiet_step (first
    | (go_at_call 19; (with_reducible exact call F2.out _))
    | (go_at_call 19; (with_reducible exact call F3.out _))
    | (go_at_call 19; (with_reducible exact call F4.out _))
    | (go_at_call 19; (with_reducible exact call F5.out _))
    | (go_at_call 19; (with_reducible exact call F6.out _))
    | (go_at_call 17; exact call awake_any _)))
  refine wpQuiet_nil ?_
  rintro _ ⟨u', rfl⟩
  go_wp2_with (fail)
  go_ret
  exact ⟨rfl, u'.below⟩
theorem wideBack_walk (a x y : Nat) (w : World) (ha : Hid (a < M)) (hx6 : x < 65536) (hy6 : y < 65536) : Calls Try.prog 6 #[wv a, .int .u16 x, .int .u16 y] w (TrueAt3 w) := by
  by_cases hf : bl a + x % 600 ≤ 512
  · by_cases h0 : a = 0
    · exact wideBack_nought a x y _ _ w ha hx6 hy6 rfl rfl hf h0
    · exact wideBack_fit a x y _ _ w ha hx6 hy6 rfl rfl hf h0
  · exact wideBack_not a x y _ _ w ha hx6 hy6 rfl rfl hf
end Go.Proofs.Ytlphfpaefgcidaa.WideW
