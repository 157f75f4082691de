/-
  What package wide answers: contracts over the translation.
-/
import Derived.Test.YtiklebonkpjlpaaDoorWord
import Derived.Test.YtiklebonkpjlpaaDoorWideV
namespace Go.Proofs.YtiklebonkpjlpaaDoor.WideW
open Go.RowKit
open DigM WideM WideV KM DigW
abbrev wv (n : Nat) : Value := .agg (cells 8 n)
theorem ret_agg {c c' : Array Value} (h : c = c') : Ending.returned (.agg c) = .returned (.agg c') := by rw [h]
theorem rowW : Row Tryd.prog 24 8 := ⟨by kernel_rfl, by kernel_rfl⟩
theorem zeroW : KM.Zero Tryd.prog 24 (cells 8 0) := by unfold KM.Zero; kernel_rfl
theorem eqlW (a b : Nat) (ha : a < M) (hb : b < M) (w : World) : (Op.equalIn 10000 24 (.agg (cells 8 a)) (.agg (cells 8 b))).run Tryd.prog w = .ok (eqB a b) w :=
  eql_words Tryd.underlying24 Tryd.underlying22 (by kernel_rfl) a b ha hb w
@[simp] theorem selfW (a : Nat) (w : World) : (Op.equalIn 10000 24 (.agg (cells 8 a)) (.agg (cells 8 a))).run Tryd.prog w = .ok true w :=
  eql_self Tryd.underlying24 Tryd.underlying22 (by kernel_rfl) a w
theorem nought : (#[.int .u64 0, .int .u64 0, .int .u64 0, .int .u64 0, .int .u64 0, .int .u64 0, .int .u64 0, .int .u64 0] : Array Value) = cells 8 0 := by kernel_rfl
theorem zero_any (a : Nat) (ha : a < M) (w : World) : Calls Tryd.prog 21 #[wv a] w (Ret (.bool (eqB a 0)) w) := by
  have hq := eqlW a 0 ha M_pos
  rw [← nought] at hq
  refine enter fun u => ?_
  unfold wv
  go_enter Tryd.func21, Tryd.ntmps21
  go_wp2_with (first | ((with_reducible apply list_box); exact rfl; intro _ _) | ((with_reducible apply lst_load); exact rfl; infer_instance; exact rowW; exact cells_size _ _))
  go_ret
  exact ⟨rfl, KW.below _⟩
theorem of_any (n : Nat) (hn : Hid (n < 18446744073709551616)) (w : World) : Calls Tryd.prog 25 #[.int .u64 n] w (Ret (wv n) w) := by
  have hc : (#[.int .u64 (n : Nat), .int .u64 0, .int .u64 0, .int .u64 0, .int .u64 0, .int .u64 0, .int .u64 0, .int .u64 0] : Array Value) = cells 8 n := by
    have h0 : cells 8 (put 0 0 n) = (cells 8 0).setIfInBounds 0 (.int .u64 (n : Nat)) := (cells_set (by rw [B_eq]; exact hn.out)).symm
    rw [put_small (by simp), Nat.zero_add, Nat.pow_zero, Nat.one_mul, ← nought] at h0
    rw [h0]; rfl
  have HC := Lib.hid hc
  clear hc
  refine enter fun u => ?_
  go_enter Tryd.func25, Tryd.ntmps25
  have hc := HC.out
  go_wp2_with (first | ((with_reducible apply list_alloc); exact zeroW; intro _ _) | ((with_reducible apply lst_store); exact rfl; exact rfl; infer_instance; exact rowW; exact cells_size _ _; exact cells_size _ _; exact cells_one _ _; intro _))
  refine body_cell Tryd.results25 rfl rowW (cells_size _ _) ⟨rfl, KW.below _⟩
theorem wordAt_any (a : Nat) (z : Int) (h1 : -9223372036854775808 ≤ z) (h2 : z ≤ 9223372036854775807) (w : World) : Calls Tryd.prog 48 #[wv a, .int .i64 z] w (Ret (.int .u64 (wz a z : Nat)) w) := by
  unfold wv wz
  by_cases h : 0 ≤ z ∧ z < 8
  · obtain ⟨k, rfl⟩ : ∃ k : Nat, z = k := ⟨z.toNat, by omega⟩
    have hk : k < 8 := by omega
    rw [if_pos h]
    obtain ⟨x, hx⟩ : ∃ x, Hid (wd a k = x) := ⟨_, Lib.hid rfl⟩
    have hc := cells_at hk hx.out
    clear h
    refine enter fun u => ?_
    go_enter Tryd.func48, Tryd.ntmps48
    go_wp2_with (first | ((with_reducible apply list_box); exact rfl; intro _ _))
    go_ret
    exact ⟨ret_int (by rw [← hx.out]; rfl), KW.below _⟩
  · rw [if_neg h]
    refine enter fun u => ?_
    by_cases h0 : z < 0
    · go_enter Tryd.func48, Tryd.ntmps48
      go_wp2_with (first | ((with_reducible apply list_box); exact rfl; intro _ _))
      go_ret
      exact ⟨rfl, KW.below _⟩
    · go_enter Tryd.func48, Tryd.ntmps48
      go_wp2_with (first | ((with_reducible apply list_box); exact rfl; intro _ _))
      go_ret
      exact ⟨rfl, KW.below _⟩
end Go.Proofs.YtiklebonkpjlpaaDoor.WideW
