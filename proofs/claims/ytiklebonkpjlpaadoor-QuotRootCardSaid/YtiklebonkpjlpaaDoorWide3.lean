/-
  package wide's products.
-/
import Derived.Test.YtiklebonkpjlpaaDoorWide2
import Derived.Deep.RegionHeld3
namespace Go.Proofs.YtiklebonkpjlpaaDoor.WideW
open Go.RowKit
open DigM WideM WideV KM DigW
theorem mul_fix (a b : Nat) (ha : a < B) (hb : b < B) : ∃ h l : Nat, Hid (h < B ∧ l < B ∧ h * B + l = a * b) ∧
    ∀ w, Calls Tryd.prog 46 #[.int .u64 a, .int .u64 b] w (fun e w' => e = .returned (.tuple #[.int .u64 h, .int .u64 l]) ∧ w = w') := by
  rw [B_eq] at *
  have hlt : a * b < 18446744073709551616 * 18446744073709551616 := Nat.mul_lt_mul_of_lt_of_le ha (Nat.le_of_lt hb) (by decide)
  refine ⟨a * b / 18446744073709551616, a * b % 18446744073709551616, Lib.hid ⟨Nat.div_lt_of_lt_mul hlt, Nat.mod_lt _ (by decide), by omega⟩, fun w => ?_⟩
  refine (mul_any a b w (Lib.hid ha) (Lib.hid hb)).mono ?_
  rintro e w' ⟨h, l, rfl, hs, rfl⟩
  obtain ⟨h1, h2, h3⟩ := hs.out
  obtain rfl : h = a * b / 18446744073709551616 := by omega
  obtain rfl : l = a * b % 18446744073709551616 := by omega
  exact ⟨rfl, rfl⟩
theorem mulAdd_fix (a b m c : Nat) (ha : a < B) (hb : b < B) (hm : m < B) (hc : c < B) : ∃ l h : Nat, Hid (l < B ∧ h < B ∧ l + B * h = a * b + m + c) ∧
    ∀ w, Calls Tryd.prog 28 #[.int .u64 a, .int .u64 b, .int .u64 m, .int .u64 c] w (fun e w' => e = .returned (.tuple #[.int .u64 l, .int .u64 h]) ∧ w = w') := by
  obtain ⟨h0, l0, H0, F0⟩ := mul_fix a b ha hb
  obtain ⟨l1, c1, H1, F1⟩ := add_fix l0 m 0 H0.out.2.1 hm
  obtain ⟨l2, c2, H2, F2⟩ := add_fix l1 c 0 H1.out.1 hc
  have hc1 : c1 < B := by have := H1.out.2.1; rw [B_eq]; omega
  obtain ⟨h3, o, H3, F3⟩ := add_fix h0 c1 c2 H0.out.1 hc1
  refine ⟨l2, h3, Lib.hid ⟨H2.out.1, H3.out.1, ?_⟩, fun w => ?_⟩
  · have e0 := H0.out
    have e1 := H1.out
    have e2 := H2.out
    have e3 := H3.out
    rw [cn_le e2.2.1] at e3
    have z : cn 0 = 0 := rfl
    rw [z] at e1 e2
    have hle := Nat.mul_le_mul (show a ≤ B - 1 by omega) (show b ≤ B - 1 by omega)
    rw [B_eq] at *
    omega
  · go_enter Tryd.func28, Tryd.ntmps28
    go_wp2_with (fail)
    refine (F0 _).mono ?_
    rintro e w' ⟨rfl, rfl⟩
    go_wp2_with (fail)
    refine (F1 _).mono ?_
    rintro e w' ⟨rfl, rfl⟩
    go_wp2_with (fail)
    refine (F2 _).mono ?_
    rintro e w' ⟨rfl, rfl⟩
    go_wp2_with (fail)
    refine (F3 _).mono ?_
    rintro e w' ⟨rfl, rfl⟩
    go_wp2_with (fail)
    go_ret2
    exact ⟨rfl, rfl⟩
theorem zero16 : KM.Zero Tryd.prog 52 (cells 16 0) := by unfold KM.Zero; kernel_rfl
def MulO (a b : Nat) (w : World) (g2 g3 g4 g6 : Nat) (i : Value) (wr : World) : Prop :=
  ∃ (k t : Nat) (u : KW w [⟨g6, cells 16 t, 52⟩, ⟨g4, cells 8 0, 24⟩, ⟨g3, cells 8 b, 24⟩, ⟨g2, cells 8 a, 24⟩]), i = .int .i64 k ∧ k ≤ 8 ∧ wr = u.w ∧ Hid (ProdW a b k t)
def MulI (a b k : Nat) (w : World) (g2 g3 g4 g6 : Nat) (c i : Value) (wr : World) : Prop :=
  ∃ (j n t : Nat) (u : KW w [⟨g6, cells 16 t, 52⟩, ⟨g4, cells 8 0, 24⟩, ⟨g3, cells 8 b, 24⟩, ⟨g2, cells 8 a, 24⟩]), i = .int .i64 j ∧ j ≤ 8 ∧ c = .int .u64 n ∧ wr = u.w ∧ Hid (RowW a b k j t n)
def MulE (a b t : Nat) (w : World) (g2 g3 g4 g6 g10 g11 : Nat) (i : Value) (wr : World) : Prop :=
  ∃ (k : Nat) (u : KW w [⟨g11, cells 8 (t / M % B ^ k), 24⟩, ⟨g10, cells 8 (t % B ^ k), 24⟩, ⟨g6, cells 16 t, 52⟩, ⟨g4, cells 8 0, 24⟩, ⟨g3, cells 8 b, 24⟩, ⟨g2, cells 8 a, 24⟩]), i = .int .i64 k ∧ k ≤ 8 ∧ wr = u.w
set_option maxRecDepth 100000 in
set_option maxHeartbeats 1600000 in
theorem wmul_any (a b : Nat) (ha : Hid (a < M)) (hb : Hid (b < M)) (w : World) : Calls Tryd.prog 9 #[wv a, wv b] w (Ret (.tuple #[wv (low (a * b)), .bool (fitB (a * b))]) w) := by
  unfold wv
  refine enter fun u => ?_
  go_enter Tryd.func9, Tryd.ntmps9
  go_wp2_with (first | ((with_reducible apply list_box); exact rfl; intro _ _) | ((with_reducible apply list_alloc); exact zeroW; intro _ _) | ((with_reducible apply list_alloc); exact zero16; intro _ _))
  rename_i g2 u2 g3 u3 g4 u4 g6 u6 _ _
  go_loopw [13] (MulO a b w g2 g3 g4 g6) (fun i _ => 8 - (intOf i).toNat)
  case atStart => exact ⟨0, 0, u6, rfl, by decide, rfl, Lib.hid (ProdW.start a b)⟩
  case round =>
    obtain ⟨k, t, u, rfl, hk, rfl, hP⟩ := hrel
    clear u2 u3 u4 u6
    by_cases hk8 : k < 8
    · obtain ⟨x, hx⟩ : ∃ x, Hid (wd a k = x) := ⟨_, Lib.hid rfl⟩
      have hxb : x < B := by rw [← hx.out]; exact wd_lt a k
      have hc1 := cells_at hk8 hx.out
      have hk8i : (k : Int) < 8 := by omega
      have hk0i : (0 : Int) ≤ k := by omega
      by_cases h0 : x = 0
      · subst h0
        have HN := Lib.hid (hP.out.skip hx.out)
        clear hxb
        go_wp2_with (fail)
        go_roundw
        case rel => exact ⟨k + 1, t, u, by go_num, by omega, rfl, HN⟩
        case measure => simp [intOf]; omega
      · have hq := bq_no (show ¬ (x : Int) = 0 from by omega)
        have HR := Lib.hid (hP.out.row hb.out)
        clear h0 hP
        go_wp2_with (fail)
        obtain ⟨wo, hwo⟩ : ∃ wo : World, Hid (wo = u.w) := ⟨_, Lib.hid rfl⟩
        rw [← hwo.out]
        go_loopw [8, 20] (MulI a b k w g2 g3 g4 g6) (fun _ i _ => 8 - (intOf i).toNat)
        case atStart => exact ⟨0, 0, t, u, rfl, by decide, rfl, hwo.out, HR⟩
        case round =>
          clear HR hwo u
          obtain ⟨j, n, t, u, rfl, hj, rfl, rfl, hR⟩ := hrel
          by_cases hj8 : j < 8
          · obtain ⟨y, hy⟩ : ∃ y, Hid (wd b j = y) := ⟨_, Lib.hid rfl⟩
            obtain ⟨z, hz⟩ : ∃ z, Hid (wd t (k + j) = z) := ⟨_, Lib.hid rfl⟩
            have hyb : y < B := by rw [← hy.out]; exact wd_lt b j
            have hzb : z < B := by rw [← hz.out]; exact wd_lt t (k + j)
            have hc2 := cells_at hj8 hy.out
            have hkj : k + j < 16 := by omega
            have hc3 := cells_at hkj hz.out
            obtain ⟨l, h, HL, hF⟩ := mulAdd_fix x y z n hxb hyb hzb hR.out.1
            have hlb : l < B := HL.out.1
            have HN : Hid (RowW a b k (j + 1) (put t (k + j) l) h) := Lib.hid (hR.out.next hj8 hlb HL.out.2.1 (by rw [hx.out, hy.out, hz.out]; exact HL.out.2.2))
            have hj8i : (j : Int) < 8 := by omega
            have hj0i : (0 : Int) ≤ j := by omega
            clear hyb hzb
            obtain ⟨u3, hu3⟩ := u.ex_put (j := k + j) (v := .int .u64 (l : Nat)) (cells_set hlb)
            have HU := Lib.hid hu3
            clear hu3
            have hw1 : IntKind.i64.wrap ((k : Int) + j) = (k : Int) + j := by rw [IntKind.wrap_i64]; omega
            have hw2 : (0 : Int) ≤ (k : Int) + j := by omega
            have hw3 : (k : Int) + j < 16 := by omega
            have hw4 : ((k : Int) + j).toNat = k + j := by omega
            go_wp2_with (fail)
            go_region_with (go_at_call 28; refine (hF _).mono ?_; rintro e w' ⟨rfl, rfl⟩)
            all_goals clear hw1 hw2 hw3 hw4
            all_goals go_wp2_with (fail)
            all_goals
              go_roundw
              case rel => exact ⟨j + 1, h, _, u3.drew, by go_num, by omega, rfl, by rw [HU.out]; rfl, HN⟩
              case measure => simp [intOf]; omega
          · obtain rfl : j = 8 := by omega
            have HN := Lib.hid (hR.out.over hb.out)
            have hnb := hR.out.1
            obtain ⟨u3, hu3⟩ := u.ex_put (j := k + 8) (v := .int .u64 (n : Nat)) (cells_set hnb)
            have HU := Lib.hid hu3
            clear hu3 hnb
            have hk16 : k + 8 < 16 := by omega
            go_wp2_with (fail)
            go_roundw
            case rel => exact ⟨k + 1, _, u3, by go_num, by omega, HU.out, HN⟩
            case measure => simp [intOf]; omega
    · obtain rfl : k = 8 := by omega
      obtain ⟨p, hp⟩ : ∃ p, Hid (p = a * b) := ⟨_, Lib.hid rfl⟩
      obtain rfl : t = p := by rw [hP.out.over ha.out, hp.out]
      have hL : Hid (low (a * b) = t % B ^ 8) := Lib.hid (by rw [← hp.out]; rfl)
      go_wp2_with (first | ((with_reducible apply list_alloc); exact zeroW; intro _ _))
      rename_i g10 u10 g11 u11 _ _
      go_loopw [49] (MulE a b t w g2 g3 g4 g6 g10 g11) (fun i _ => 8 - (intOf i).toNat)
      case atStart =>
        have e1 : t / M % B ^ 0 = 0 := by simp [Nat.mod_one]
        have e2 : t % B ^ 0 = 0 := by simp [Nat.mod_one]
        have HX : ∃ u : KW w [⟨g11, cells 8 (t / M % B ^ 0), 24⟩, ⟨g10, cells 8 (t % B ^ 0), 24⟩, ⟨g6, cells 16 t, 52⟩, ⟨g4, cells 8 0, 24⟩, ⟨g3, cells 8 b, 24⟩, ⟨g2, cells 8 a, 24⟩], u11.w = u.w := by rw [e1, e2]; exact ⟨u11, rfl⟩
        obtain ⟨u', hu'⟩ := HX
        exact ⟨0, u', rfl, by decide, hu'⟩
      case round =>
        clear u10 u11 u
        obtain ⟨k, u, rfl, hk, rfl⟩ := hrel
        by_cases hk8 : k < 8
        · obtain ⟨x, hx⟩ : ∃ x, Hid (wd t k = x) := ⟨_, Lib.hid rfl⟩
          obtain ⟨y, hy⟩ : ∃ y, Hid (wd t (k + 8) = y) := ⟨_, Lib.hid rfl⟩
          have hk16 : k < 16 := by omega
          have hk816 : k + 8 < 16 := by omega
          have hc1 := cells_at hk16 hx.out
          have hc2 := cells_at hk816 hy.out
          have hxb : x < B := by rw [← hx.out]; exact wd_lt t k
          have hyb : y < B := by rw [← hy.out]; exact wd_lt t (k + 8)
          obtain ⟨u1, hu1⟩ := u.ex_put1 (j := k) (v := .int .u64 (x : Nat)) (c' := cells 8 (t % B ^ (k + 1))) (by rw [cells_set hxb, ← hx.out, part_step])
          obtain ⟨u2, hu2⟩ := u1.ex_put (j := k) (v := .int .u64 (y : Nat)) (c' := cells 8 (t / M % B ^ (k + 1))) (by rw [cells_set hyb, ← hy.out, wd_high, part_step])
          have s1 : u.w.cell? ⟨g6, k, none⟩ = some (.int .u64 (x : Nat)) := by simp [hk16, hc1]
          have s2 : u.w.cell? ⟨g6, k + 8, none⟩ = some (.int .u64 (y : Nat)) := by simp [hk816, hc2]
          have s3 : (u.w.setCell ⟨g10, k, none⟩ (.int .u64 (x : Nat))).cell? ⟨g6, k, none⟩ = some (.int .u64 (x : Nat)) := by rw [hu1]; simp [hk16, hc1]
          have s4 : (u.w.setCell ⟨g10, k, none⟩ (.int .u64 (x : Nat))).cell? ⟨g6, k + 8, none⟩ = some (.int .u64 (y : Nat)) := by rw [hu1]; simp [hk816, hc2]
          have s5 : ((u.w.setCell ⟨g10, k, none⟩ (.int .u64 (x : Nat))).setCell ⟨g11, k, none⟩ (.int .u64 (y : Nat))).cell? ⟨g6, k, none⟩ = some (.int .u64 (x : Nat)) := by rw [hu1, hu2]; simp [hk16, hc1]
          have s6 : ((u.w.setCell ⟨g10, k, none⟩ (.int .u64 (x : Nat))).setCell ⟨g11, k, none⟩ (.int .u64 (y : Nat))).cell? ⟨g6, k + 8, none⟩ = some (.int .u64 (y : Nat)) := by rw [hu1, hu2]; simp [hk816, hc2]
          have f1 : (u.w.setCell ⟨g10, k, none⟩ (.int .u64 (x : Nat))).frozen? ⟨g11, k, none⟩ = false := by rw [hu1]; simp
          have f2 : ∃ v, (u.w.setCell ⟨g10, k, none⟩ (.int .u64 (x : Nat))).cell? ⟨g11, k, none⟩ = some v := by rw [hu1]; simp [hk8]
          obtain ⟨v2, f2⟩ := f2
          have HU := Lib.hid (show ((u.w.setCell ⟨g10, k, none⟩ (.int .u64 (x : Nat))).setCell ⟨g11, k, none⟩ (.int .u64 (y : Nat))) = u2.w by rw [hu1, hu2])
          clear hu1 hu2 hxb hyb
          have hk8i : (k : Int) < 8 := by omega
          have hk16i : (k : Int) < 16 := by omega
          have hk0i : (0 : Int) ≤ k := by omega
          have hw1 : IntKind.i64.wrap ((k : Int) + 8) = (k : Int) + 8 := by rw [IntKind.wrap_i64]; omega
          have hw2 : (0 : Int) ≤ (k : Int) + 8 := by omega
          have hw3 : (k : Int) + 8 < 16 := by omega
          have hw4 : ((k : Int) + 8).toNat = k + 8 := by omega
          go_wp2_with (fail)
          go_region_held3 (fun w' => w'.cell? ⟨g6, k, none⟩ = some (.int .u64 (x : Nat)) ∧ w'.cell? ⟨g6, k + 8, none⟩ = some (.int .u64 (y : Nat))) (first | exact ⟨s1, s2⟩ | exact ⟨s3, s4⟩ | exact ⟨s5, s6⟩) (fail)
          all_goals clear hw1 hw2 hw3 hw4
          all_goals go_wp2_with (fail)
          all_goals
            go_roundw
            case rel => exact ⟨k + 1, u2.drew, by go_num, by omega, by rw [HU.out]; rfl⟩
            case measure => simp [intOf]; omega
        · obtain rfl : k = 8 := by omega
          have hth : t / M < M := by
            have := Nat.mul_lt_mul_of_lt_of_le ha.out (Nat.le_of_lt hb.out) M_pos
            rw [← hp.out] at this
            exact Nat.div_lt_of_lt_mul this
          have HM : t / M % B ^ 8 = t / M := Nat.mod_eq_of_lt hth
          have HF : Hid (eqB (t / M % B ^ 8) 0 = fitB (a * b)) := Lib.hid (by rw [HM, ← hp.out]; exact high_zero)
          have hth2 : t / M % B ^ 8 < M := by rw [HM]; exact hth
          clear HM hth
          go_wp2_with (fail)
          refine region_tail 3 (by kernel_rfl) (by kernel_rfl) fun _ => ?_
          simp only [List.take_succ_cons, List.take_zero, List.drop_succ_cons, List.drop_zero]
          repeat (go_big_quiet_step ((exact call (zero_any _ hth2) _)))
          refine wpQuiet_nil ?_
          rintro _ ⟨u', rfl⟩
          go_wp2_with (first | ((with_reducible apply lst_store); exact rfl; exact rfl; infer_instance; exact rowW; exact cells_size _ _; exact cells_size _ _; exact cells_one _ _; intro _))
          refine body_cell_tmp Tryd.results9 rfl rfl rowW (cells_size _ _) ⟨?_, KW.below _⟩
          rw [hL.out, ← HF.out]
          rfl
end Go.Proofs.YtiklebonkpjlpaaDoor.WideW
