/-
  package wide: how numbers compare, how long they are, their bits, shifts.
-/
import Derived.Test.YtiklebonkpjlpaaDoorWide
namespace Go.Proofs.YtiklebonkpjlpaaDoor.WideW
open Go.RowKit
open DigM WideM WideV KM DigW
def CmpRel (a b : Nat) (w : World) (g2 g3 : Nat) (i : Value) (wr : World) : Prop :=
  ∃ (m : Nat) (u : KW w [⟨g3, cells 8 b, 24⟩, ⟨g2, cells 8 a, 24⟩]), i = .int .i64 ((m : Int) - 1) ∧ m ≤ 8 ∧ wr = u.w ∧ Hid (a / B ^ m = b / B ^ m)
set_option maxHeartbeats 800000 in
theorem wcmp_any (a b : Nat) (ha : Hid (a < M)) (hb : Hid (b < M)) (w : World) : Calls Tryd.prog 11 #[wv a, wv b] w (Ret (.int .i64 (cmpI a b)) w) := by
  unfold wv
  refine enter fun u => ?_
  go_enter Tryd.func11, Tryd.ntmps11
  go_wp2_with (first | ((with_reducible apply list_box); exact rfl; intro _ _))
  rename_i g2 u2 g3 u3 _ _
  go_loopw [5] (CmpRel a b w g2 g3) (fun i _ => (intOf i + 1).toNat)
  case atStart => exact ⟨8, u3, rfl, by decide, rfl, Lib.hid (by rw [Nat.div_eq_of_lt (show a < B ^ 8 from ha.out), Nat.div_eq_of_lt (show b < B ^ 8 from hb.out)])⟩
  case round =>
    clear u2 u3
    obtain ⟨m, u, rfl, hm, rfl, hE⟩ := hrel
    cases m with
    | zero =>
      have HE : Hid (a = b) := Lib.hid (by have := hE.out; simpa using this)
      go_wp2_with (fail)
      go_ret
      exact ⟨ret_int (by rw [HE.out, cmpI_eq]), KW.below _⟩
    | succ j =>
      have ej : ((j + 1 : Nat) : Int) - 1 = j := by omega
      rw [ej]
      clear ej
      have hj8 : j < 8 := by omega
      obtain ⟨x, hx⟩ : ∃ x, Hid (wd a j = x) := ⟨_, Lib.hid rfl⟩
      obtain ⟨y, hy⟩ : ∃ y, Hid (wd b j = y) := ⟨_, Lib.hid rfl⟩
      have hc1 := cells_at hj8 hx.out
      have hc2 := cells_at hj8 hy.out
      have hj8i : (j : Int) < 8 := by omega
      have hj0i : (0 : Int) ≤ j := by omega
      rcases Nat.lt_trichotomy x y with h | h | h
      · have HN : Hid (cmpI a b = -1) := Lib.hid (cmpI_lt (top_lt hE.out (by rw [hx.out, hy.out]; exact h)))
        go_wp2_with (fail)
        refine region (by kernel_rfl) (by kernel_rfl) fun _ => ?_
        repeat (go_big_quiet_step (fail))
        refine wpQuiet_nil ?_
        rintro _ ⟨u', rfl⟩
        go_wp2_with (fail)
        go_ret
        exact ⟨ret_int (by rw [HN.out]), KW.below _⟩
      · subst h
        have HN := Lib.hid (top_step hE.out (by rw [hx.out, hy.out]))
        go_wp2_with (fail)
        refine region (by kernel_rfl) (by kernel_rfl) fun _ => ?_
        repeat (go_big_quiet_step (fail))
        refine wpQuiet_nil ?_
        rintro _ ⟨u', rfl⟩
        go_wp2_with (fail)
        refine region (by kernel_rfl) (by kernel_rfl) fun _ => ?_
        repeat (go_big_quiet_step (fail))
        refine wpQuiet_nil ?_
        rintro _ ⟨u', rfl⟩
        go_wp2_with (fail)
        go_roundw
        case rel => exact ⟨j, u', by go_num, by omega, rfl, HN⟩
        case measure => simp [intOf]
      · have HN : Hid (cmpI a b = 1) := Lib.hid (cmpI_gt (top_lt hE.out.symm (by rw [hx.out, hy.out]; exact h)))
        have hq : decide (x < y) = false := by simp; omega
        go_wp2_with (fail)
        refine region (by kernel_rfl) (by kernel_rfl) fun _ => ?_
        repeat (go_big_quiet_step (fail))
        refine wpQuiet_nil ?_
        rintro _ ⟨u', rfl⟩
        go_wp2_with (fail)
        refine region (by kernel_rfl) (by kernel_rfl) fun _ => ?_
        repeat (go_big_quiet_step (fail))
        refine wpQuiet_nil ?_
        rintro _ ⟨u', rfl⟩
        go_wp2_with (fail)
        go_ret
        exact ⟨ret_int (by rw [HN.out]), KW.below _⟩
def LenRel (a : Nat) (w : World) (g1 : Nat) (i : Value) (wr : World) : Prop :=
  ∃ (m : Nat) (u : KW w [⟨g1, cells 8 a, 24⟩]), i = .int .i64 ((m : Int) - 1) ∧ m ≤ 8 ∧ wr = u.w ∧ Hid (a / B ^ m = 0)
set_option maxHeartbeats 800000 in
theorem wlen8_any (a : Nat) (ha : Hid (a < M)) (w : World) : Calls Tryd.prog 32 #[wv a] w (Ret (.int .i64 (bl a : Nat)) w) := by
  unfold wv
  refine enter fun u => ?_
  go_enter Tryd.func32, Tryd.ntmps32
  go_wp2_with (first | ((with_reducible apply list_box); exact rfl; intro _ _))
  rename_i g1 u1 _ _
  go_loopw [3] (LenRel a w g1) (fun i _ => (intOf i + 1).toNat)
  case atStart => exact ⟨8, u1, rfl, by decide, rfl, Lib.hid (Nat.div_eq_of_lt (show a < B ^ 8 from ha.out))⟩
  case round =>
    clear u1
    obtain ⟨m, u, rfl, hm, rfl, hE⟩ := hrel
    cases m with
    | zero =>
      have HE : Hid (bl a = 0) := Lib.hid (bl_zero hE.out)
      go_wp2_with (fail)
      go_ret
      exact ⟨ret_int (by rw [HE.out]; rfl), KW.below _⟩
    | succ j =>
      have ej : ((j + 1 : Nat) : Int) - 1 = j := by omega
      rw [ej]
      clear ej
      have hj8 : j < 8 := by omega
      obtain ⟨x, hx⟩ : ∃ x, Hid (wd a j = x) := ⟨_, Lib.hid rfl⟩
      have hc1 := cells_at hj8 hx.out
      have hj8i : (j : Int) < 8 := by omega
      have hj0i : (0 : Int) ≤ j := by omega
      by_cases h0 : x = 0
      · subst h0
        have HN : Hid (a / B ^ j = 0) := Lib.hid (by have := top_step (a := a) (b := 0) (j := j) (by rw [hE.out]; simp) (by rw [hx.out]; simp [wd]); rw [this]; simp)
        go_wp2_with (fail)
        go_roundw
        case rel => exact ⟨j, u, by go_num, by omega, rfl, HN⟩
        case measure => simp [intOf]
      · have hq := bn_yes (show ¬ (x : Int) = 0 from by omega)
        have hxb : Hid (x < 18446744073709551616) := Lib.hid (by rw [← hx.out]; exact wd_lt' a j)
        have H0 := Lib.hid h0
        clear h0
        go_wp2_with (fail)
        refine (wlen_any x _ hxb).mono ?_
        rintro e w' ⟨k, rfl, hk, hk64, rfl⟩
        have HN : Hid (bl a = 64 * j + k) := Lib.hid (bl_top hE.out (by rw [hx.out]; exact hk.out) (by rw [hx.out]; exact H0.out))
        go_wp2_with (fail)
        go_ret
        exact ⟨ret_int (by rw [HN.out]; omega), KW.below _⟩
theorem i64_and63 (n : Int) : bits .and .i64 n 63 = n % 64 := by
  have h63 : (BitVec.ofInt 64 63).toNat = 2 ^ 6 - 1 := by decide
  have key : (BitVec.ofInt 64 n &&& BitVec.ofInt 64 63).toNat = (n % ((2 ^ 64 : Nat) : Int)).toNat % 2 ^ 6 := by
    rw [BitVec.toNat_and, BitVec.toNat_ofInt, h63, Nat.and_two_pow_sub_one_eq_mod]
  show IntKind.i64.wrap ((BitVec.ofInt 64 n &&& BitVec.ofInt 64 63).toNat : Nat) = n % 64
  rw [key, IntKind.wrap_i64]
  omega
theorem lowBit (x r : Nat) (hx : x < 18446744073709551616) : (bits .and .u64 ((x : Int) / 2 ^ r) 1 == 1) = decide (x / 2 ^ r % 2 = 1) := by
  have e : (x : Int) / 2 ^ r = ((x / 2 ^ r : Nat) : Int) := by rw [Int.natCast_ediv, Int.natCast_pow]; rfl
  have hle := Nat.div_le_self x (2 ^ r)
  rw [e]
  have h := u64_and_nat (x / 2 ^ r) 1 (by omega) (by decide)
  rw [Nat.and_one_is_mod] at h
  rw [show ((1 : Nat) : Int) = 1 from rfl] at h
  rw [h, Bool.eq_iff_iff, beq_iff_eq, decide_eq_true_eq]
  omega
end Go.Proofs.YtiklebonkpjlpaaDoor.WideW
