/-
  package wide's sums and differences.
-/
import Derived.Test.YtiklebonkpjlpaaDoorWide
import Derived.Deep.RegionHeld3
namespace Go.Proofs.YtiklebonkpjlpaaDoor.WideW
open Go.RowKit
open DigM WideM WideV KM DigW
/-- word's sum and difference, their results named ahead -/
theorem add_fix (a b c : Nat) (ha : a < B) (hb : b < B) : ∃ s o : Nat, Hid (s < B ∧ o ≤ 1 ∧ s + B * o = a + b + cn c) ∧
    ∀ w, Calls Tryd.prog 29 #[.int .u64 a, .int .u64 b, .int .u64 c] w (fun e w' => e = .returned (.tuple #[.int .u64 s, .int .u64 o]) ∧ w = w') := by
  rw [B_eq] at *
  have hc : cn c ≤ 1 := by unfold cn; split <;> decide
  refine ⟨(a + b + cn c) % 18446744073709551616, (a + b + cn c) / 18446744073709551616, Lib.hid ⟨by omega, by omega, by omega⟩, fun w => ?_⟩
  refine (add_any a b c w (Lib.hid ha) (Lib.hid hb)).mono ?_
  rintro e w' ⟨s, o, rfl, hs, rfl⟩
  obtain ⟨h1, h2, h3⟩ := hs.out
  obtain rfl : s = (a + b + cn c) % 18446744073709551616 := by omega
  obtain rfl : o = (a + b + cn c) / 18446744073709551616 := by omega
  exact ⟨rfl, rfl⟩
theorem sub_fix (a b c : Nat) (ha : a < B) (hb : b < B) : ∃ s o : Nat, Hid (s < B ∧ o ≤ 1 ∧ s + b + cn c = a + B * o) ∧
    ∀ w, Calls Tryd.prog 53 #[.int .u64 a, .int .u64 b, .int .u64 c] w (fun e w' => e = .returned (.tuple #[.int .u64 s, .int .u64 o]) ∧ w = w') := by
  rw [B_eq] at *
  have hc : cn c ≤ 1 := by unfold cn; split <;> decide
  refine ⟨(a + 18446744073709551616 - b - cn c) % 18446744073709551616, if a < b + cn c then 1 else 0, Lib.hid ⟨by omega, by split <;> omega, by split <;> omega⟩, fun w => ?_⟩
  refine (sub_any a b c w (Lib.hid ha) (Lib.hid hb)).mono ?_
  rintro e w' ⟨s, o, rfl, hs, rfl⟩
  obtain ⟨h1, h2, h3⟩ := hs.out
  obtain rfl : s = (a + 18446744073709551616 - b - cn c) % 18446744073709551616 := by omega
  obtain rfl : o = (if a < b + cn c then 1 else 0) := by split <;> omega
  exact ⟨rfl, rfl⟩
theorem cn_le {c : Nat} (h : c ≤ 1) : cn c = c := by unfold cn; split <;> omega
def SumRel (a b : Nat) (w : World) (g2 g3 g4 g6 : Nat) (c i : Value) (wr : World) : Prop :=
  ∃ (k n s : Nat) (u : KW w [⟨g6, cells 8 s, 24⟩, ⟨g4, cells 8 0, 24⟩, ⟨g3, cells 8 b, 24⟩, ⟨g2, cells 8 a, 24⟩]), i = .int .i64 k ∧ k ≤ 8 ∧ c = .int .u64 n ∧ wr = u.w ∧ Hid (SumW a b k s n)
set_option maxHeartbeats 800000 in
theorem wadd_any (a b : Nat) (ha : Hid (a < M)) (hb : Hid (b < M)) (w : World) : Calls Tryd.prog 10 #[wv a, wv b] w (Ret (.tuple #[wv (low (a + b)), .bool (fitB (a + b))]) w) := by
  unfold wv
  refine enter fun u => ?_
  go_enter Tryd.func10, Tryd.ntmps10
  go_wp2_with (first | ((with_reducible apply list_box); exact rfl; intro _ _) | ((with_reducible apply list_alloc); exact zeroW; intro _ _))
  rename_i g2 u2 g3 u3 g4 u4 g6 u6 _ _
  go_loopw [7, 9] (SumRel a b w g2 g3 g4 g6) (fun _ i _ => 8 - (intOf i).toNat)
  case atStart => exact ⟨0, 0, 0, u6, rfl, by decide, rfl, rfl, Lib.hid (SumW.start a b)⟩
  case round =>
    obtain ⟨k, n, s, u, rfl, hk, rfl, rfl, hS⟩ := hrel
    clear u2 u3 u4 u6
    by_cases hk8 : k < 8
    · obtain ⟨x, hx⟩ : ∃ x, Hid (wd a k = x) := ⟨_, Lib.hid rfl⟩
      obtain ⟨y, hy⟩ : ∃ y, Hid (wd b k = y) := ⟨_, Lib.hid rfl⟩
      have hxb : x < B := by rw [← hx.out]; exact wd_lt a k
      have hyb : y < B := by rw [← hy.out]; exact wd_lt b k
      have hc1 := cells_at hk8 hx.out
      have hc2 := cells_at hk8 hy.out
      obtain ⟨z, o, hz, hF⟩ := add_fix x y n hxb hyb
      have hzb : z < B := hz.out.1
      have HN : Hid (SumW a b (k + 1) (put s k z) o) := Lib.hid (by
        have h1 := hz.out.2.2
        rw [cn_le hS.out.1] at h1
        exact hS.out.next hz.out.2.1 hzb (by rw [hx.out, hy.out]; exact h1))
      clear hxb hyb
      have hk8i : (k : Int) < 8 := by omega
      have hk0i : (0 : Int) ≤ k := by omega
      obtain ⟨u3, hu3⟩ := u.ex_put (j := k) (v := .int .u64 (z : Nat)) (cells_set hzb)
      have s1 : u.w.cell? ⟨g2, k, none⟩ = some (.int .u64 (x : Nat)) := by simp [hk8, hc1]
      have s2 : u.w.cell? ⟨g3, k, none⟩ = some (.int .u64 (y : Nat)) := by simp [hk8, hc2]
      have s3 : (u.w.setCell ⟨g6, k, none⟩ (.int .u64 (z : Nat))).cell? ⟨g2, k, none⟩ = some (.int .u64 (x : Nat)) := by rw [hu3]; simp [hk8, hc1]
      have s4 : (u.w.setCell ⟨g6, k, none⟩ (.int .u64 (z : Nat))).cell? ⟨g3, k, none⟩ = some (.int .u64 (y : Nat)) := by rw [hu3]; simp [hk8, hc2]
      have HU := Lib.hid hu3
      clear hu3
      go_wp2_with (fail)
      go_region_held3 (fun w' => w'.cell? ⟨g2, k, none⟩ = some (.int .u64 (x : Nat)) ∧ w'.cell? ⟨g3, k, none⟩ = some (.int .u64 (y : Nat))) (first | exact ⟨s1, s2⟩ | exact ⟨s3, s4⟩)
        (first | (go_at_call 29; refine (hF _).mono ?_; rintro e w' ⟨rfl, rfl⟩))
      go_wp2_with (fail)
      go_roundw
      case rel => exact ⟨k + 1, o, _, u3.drew, by go_num, by omega, rfl, by rw [HU.out]; rfl, HN⟩
      case measure => simp [intOf]; omega
    · obtain rfl : k = 8 := by omega
      have HE := Lib.hid (hS.out.over ha.out hb.out)
      go_wp2_with (first | ((with_reducible apply lst_load); exact rfl; infer_instance; exact rowW; exact cells_size _ _) | ((with_reducible apply lst_store); exact rfl; exact rfl; infer_instance; exact rowW; exact cells_size _ _; exact cells_size _ _; exact cells_one _ _; intro _))
      refine body_cell_tmp Tryd.results10 rfl rfl rowW (cells_size _ _) ⟨?_, KW.below _⟩
      rw [HE.out.1, ← HE.out.2]
      rfl
def DifRel (a b : Nat) (w : World) (g2 g3 g4 g6 : Nat) (c i : Value) (wr : World) : Prop :=
  ∃ (k n s : Nat) (u : KW w [⟨g6, cells 8 s, 24⟩, ⟨g4, cells 8 0, 24⟩, ⟨g3, cells 8 b, 24⟩, ⟨g2, cells 8 a, 24⟩]), i = .int .i64 k ∧ k ≤ 8 ∧ c = .int .u64 n ∧ wr = u.w ∧ Hid (DifW a b k s n)
end Go.Proofs.YtiklebonkpjlpaaDoor.WideW
