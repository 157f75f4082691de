/-
  The laws of layer 3: what they all begin with, and WideAdds.
-/
import Derived.Test.YtlphfpaefgcidaaWide3
import Derived.Test.YtlphfpaefgcidaaWide5
import Derived.Test.YtlphfpaefgcidaaWideRef5
namespace Go.Proofs.Ytlphfpaefgcidaa.WideW
open Go.RowKit
open DigM WideM WideV KM DigW
theorem three : ((cells 8 0).setIfInBounds 0 (.int .u64 0)).setIfInBounds 1 (.int .u64 3) = cells 8 (3 * B) := by kernel_rfl
theorem lowThree : low (9223372036854775808 * 6) = 3 * B := by kernel_rfl
theorem fitThree : fitB (9223372036854775808 * 6) = true := by kernel_rfl
theorem blThree : bl (3 * B) = 66 := by kernel_rfl
theorem below1 : leB 1 0 = false := by kernel_rfl
theorem top1 : (cells 8 (subL 0 1))[7]'(by simp) = .int .u64 18446744073709551615 := by
  have e : wd (subL 0 1) 7 = 18446744073709551615 := by kernel_rfl
  exact cells_at (by decide) e
theorem ltM {n : Nat} (h : n < B) : n < M := Nat.lt_of_lt_of_le h (by rw [M]; exact Nat.le_self_pow (by decide) B)
/-- what the layer's example reckons with, its numbers behind names -/
theorem example_parts : ∃ n m k p d : Nat, Hid (n < M ∧ m < M ∧ k < M ∧ p < M ∧ d < M) ∧
    (∀ w, Calls Try.prog 25 #[.int .u64 9223372036854775808] w (Ret (wv n) w)) ∧ (∀ w, Calls Try.prog 25 #[.int .u64 6] w (Ret (wv m) w)) ∧ (∀ w, Calls Try.prog 25 #[.int .u64 1] w (Ret (wv k) w)) ∧
    (∀ w, Calls Try.prog 10 #[wv n, wv m] w (Ret (.tuple #[wv p, .bool true]) w)) ∧ (∀ w, Calls Try.prog 9 #[wv 0, wv k] w (Ret (.tuple #[wv d, .bool false]) w)) ∧
    (∀ w, Calls Try.prog 21 #[wv p] w (Ret (.int .i64 66) w)) ∧
    ((cells 8 0).setIfInBounds 0 (.int .u64 0)).setIfInBounds 1 (.int .u64 3) = cells 8 p ∧ (cells 8 d)[7]'(by simp) = .int .u64 18446744073709551615 := by
  have e1 : Hid (9223372036854775808 < 18446744073709551616) := Lib.hid (by decide)
  have e2 : Hid (6 < 18446744073709551616) := Lib.hid (by decide)
  have e3 : Hid (1 < 18446744073709551616) := Lib.hid (by decide)
  have m1 : Hid (9223372036854775808 < M) := Lib.hid (ltM (by rw [B_eq]; exact e1.out))
  have m2 : Hid (6 < M) := Lib.hid (ltM (by rw [B_eq]; exact e2.out))
  have m3 : Hid (1 < M) := Lib.hid (ltM (by rw [B_eq]; exact e3.out))
  have m0 : Hid (0 < M) := Lib.hid M_pos
  have m4 : Hid (3 * B < M) := Lib.hid (by rw [← lowThree]; exact low_lt _)
  have FM := fun w => wmul_any 9223372036854775808 6 m1 m2 w
  rw [lowThree, fitThree] at FM
  have FS := fun w => wsub_any 0 1 m0 m3 w
  rw [below1] at FS
  have FL := fun w => wlen8_any (3 * B) m4 w
  rw [blThree] at FL
  exact ⟨9223372036854775808, 6, 1, 3 * B, subL 0 1, Lib.hid ⟨m1.out, m2.out, m3.out, m4.out, low_lt _⟩, fun w => of_any _ e1 w, fun w => of_any _ e2 w, fun w => of_any _ e3 w, FM, FS, FL, three, top1⟩
set_option maxHeartbeats 1600000 in
theorem awake_any (w : World) : Calls Try.prog 17 #[] w (Ret (.bool true) w) := by
  obtain ⟨n, m, k, p, d, HB, F1, F2, F3, FM, FS, FL, h3, ht⟩ := example_parts
  have H1 := Lib.hid F1
  have H2 := Lib.hid F2
  have H3 := Lib.hid F3
  have HM := Lib.hid FM
  have HS := Lib.hid FS
  have HL := Lib.hid FL
  clear F1 F2 F3 FM FS FL
  have h0 := nought
  refine enter fun u => ?_
  go_enter Try.func17, Try.ntmps17
  go_wp2_with (fail)
  refine (H1.out _).mono ?_
  rintro e w1 ⟨rfl, b1⟩
  obtain ⟨u1, rfl⟩ := u.go b1
  go_wp2_with (fail)
  refine (H2.out _).mono ?_
  rintro e w1 ⟨rfl, b1⟩
  obtain ⟨u2, rfl⟩ := u1.go b1
  go_wp2_with (fail)
  refine (HM.out _).mono ?_
  rintro e w1 ⟨rfl, b1⟩
  obtain ⟨u3, rfl⟩ := u2.go b1
  go_wp2_with (first | ((with_reducible apply list_alloc); exact zeroW; intro _ _) | ((with_reducible apply lst_load); exact rfl; infer_instance; exact rowW; exact cells_size _ _) | ((with_reducible apply lst_store); exact rfl; exact rfl; infer_instance; exact rowW; exact cells_size _ _; exact cells_size _ _; exact cells_one _ _; intro _))
  refine (H3.out _).mono ?_
  rintro e w1 ⟨rfl, b1⟩
  obtain ⟨u4, rfl⟩ := KW.go _ b1
  go_wp2_with (fail)
  refine (HS.out _).mono ?_
  rintro e w1 ⟨rfl, b1⟩
  obtain ⟨u5, rfl⟩ := KW.go _ b1
  go_wp2_with (first | ((with_reducible apply list_alloc); exact zeroW; intro _ _) | ((with_reducible apply lst_load); exact rfl; infer_instance; exact rowW; exact cells_size _ _) | ((with_reducible apply lst_store); exact rfl; exact rfl; infer_instance; exact rowW; exact cells_size _ _; exact cells_size _ _; exact cells_one _ _; intro _))
  refine (HL.out _).mono ?_
  rintro e w1 ⟨rfl, b1⟩
  obtain ⟨u6, rfl⟩ := KW.go _ b1
  go_wp2_with (fail)
  go_ret
  exact ⟨rfl, KW.below _⟩
end Go.Proofs.Ytlphfpaefgcidaa.WideW
