/-
  The walk of the law RatioOrder.
-/
import Derived.Test.YtpcbnciihohdjaaRatLaws
namespace Go.Proofs.Ytpcbnciihohdjaa.RatW
open Go.RowKit
open DigM WideM WideV KM DigW WideW QuotW QuotM DecM FmtW SignM SignW
def r3 (s0 : Bool) (n0 d0 : Nat) (s1 : Bool) (n1 d1 : Nat) (s2 : Bool) (n2 d2 : Nat) : Array Value := #[.bool s0, .int .u64 (wd n0 0 : Nat), .int .u64 (wd n0 1 : Nat), .int .u64 (wd n0 2 : Nat), .int .u64 (wd n0 3 : Nat), .int .u64 (wd n0 4 : Nat), .int .u64 (wd n0 5 : Nat), .int .u64 (wd n0 6 : Nat), .int .u64 (wd n0 7 : Nat), .int .u64 (wd d0 0 : Nat), .int .u64 (wd d0 1 : Nat), .int .u64 (wd d0 2 : Nat), .int .u64 (wd d0 3 : Nat), .int .u64 (wd d0 4 : Nat), .int .u64 (wd d0 5 : Nat), .int .u64 (wd d0 6 : Nat), .int .u64 (wd d0 7 : Nat), .bool s1, .int .u64 (wd n1 0 : Nat), .int .u64 (wd n1 1 : Nat), .int .u64 (wd n1 2 : Nat), .int .u64 (wd n1 3 : Nat), .int .u64 (wd n1 4 : Nat), .int .u64 (wd n1 5 : Nat), .int .u64 (wd n1 6 : Nat), .int .u64 (wd n1 7 : Nat), .int .u64 (wd d1 0 : Nat), .int .u64 (wd d1 1 : Nat), .int .u64 (wd d1 2 : Nat), .int .u64 (wd d1 3 : Nat), .int .u64 (wd d1 4 : Nat), .int .u64 (wd d1 5 : Nat), .int .u64 (wd d1 6 : Nat), .int .u64 (wd d1 7 : Nat), .bool s2, .int .u64 (wd n2 0 : Nat), .int .u64 (wd n2 1 : Nat), .int .u64 (wd n2 2 : Nat), .int .u64 (wd n2 3 : Nat), .int .u64 (wd n2 4 : Nat), .int .u64 (wd n2 5 : Nat), .int .u64 (wd n2 6 : Nat), .int .u64 (wd n2 7 : Nat), .int .u64 (wd d2 0 : Nat), .int .u64 (wd d2 1 : Nat), .int .u64 (wd d2 2 : Nat), .int .u64 (wd d2 3 : Nat), .int .u64 (wd d2 4 : Nat), .int .u64 (wd d2 5 : Nat), .int .u64 (wd d2 6 : Nat), .int .u64 (wd d2 7 : Nat)]
set_option maxRecDepth 100000 in
theorem rowR3 (s0 : Bool) (n0 d0 : Nat) (s1 : Bool) (n1 d1 : Nat) (s2 : Bool) (n2 d2 : Nat) : Row Try.prog 53 (r3 s0 n0 d0 s1 n1 d1 s2 n2 d2).size := ⟨by kernel_rfl, by kernel_rfl⟩
set_option maxRecDepth 100000 in
instance celR3 (s0 : Bool) (n0 d0 : Nat) (s1 : Bool) (n1 d1 : Nat) (s2 : Bool) (n2 d2 : Nat) : Cel Try.prog 53 (r3 s0 n0 d0 s1 n1 d1 s2 n2 d2) := ⟨rowR3 s0 n0 d0 s1 n1 d1 s2 n2 d2, by kernel_rfl⟩
set_option maxRecDepth 100000 in
instance partR3_0 (s0 : Bool) (n0 d0 : Nat) (s1 : Bool) (n1 d1 : Nat) (s2 : Bool) (n2 d2 : Nat) : Part Try.prog 28 (r3 s0 n0 d0 s1 n1 d1 s2 n2 d2) 0 (rc s0 n0 d0) := Part.of (rowRatio _ _ _) (by kernel_rfl)
set_option maxRecDepth 100000 in
instance partR3_1 (s0 : Bool) (n0 d0 : Nat) (s1 : Bool) (n1 d1 : Nat) (s2 : Bool) (n2 d2 : Nat) : Part Try.prog 28 (r3 s0 n0 d0 s1 n1 d1 s2 n2 d2) 17 (rc s1 n1 d1) := Part.of (rowRatio _ _ _) (by kernel_rfl)
set_option maxRecDepth 100000 in
instance partR3_2 (s0 : Bool) (n0 d0 : Nat) (s1 : Bool) (n1 d1 : Nat) (s2 : Bool) (n2 d2 : Nat) : Part Try.prog 28 (r3 s0 n0 d0 s1 n1 d1 s2 n2 d2) 34 (rc s2 n2 d2) := Part.of (rowRatio _ _ _) (by kernel_rfl)

theorem cmpZ_cases (x : Int) : (cmpZ x = 1 ∧ 0 < x) ∨ (cmpZ x = 0 ∧ x = 0) ∨ (cmpZ x = -1 ∧ x < 0) := by
  unfold cmpZ
  by_cases h : x < 0
  · rw [if_pos h]; omega
  · rw [if_neg h]
    by_cases h2 : x = 0
    · rw [if_pos h2]; omega
    · rw [if_neg h2]; omega
theorem order_facts {s0 s1 s2 : Bool} {n0 n1 n2 d0 d1 d2 : Nat} (h0 : mayB s0 n0 d0 = true) (h1 : mayB s1 n1 d1 = true) (h2 : mayB s2 n2 d2 = true) : ∃ x z v : Int, cmpZ (sg s0 n0 * d1 - sg s1 n1 * d0) = x ∧ cmpZ (sg s1 n1 * d0 - sg s0 n0 * d1) = -x ∧ cmpZ (sg s1 n1 * d2 - sg s2 n2 * d1) = z ∧ cmpZ (sg s0 n0 * d2 - sg s2 n2 * d0) = v ∧
    (x = 1 ∨ (x = 0 ∧ v = z) ∨ (x = -1 ∧ (0 < z ∨ v ≤ 0))) := by
  obtain ⟨_, _, p0, _, g0⟩ := may_parts h0
  obtain ⟨_, _, p1, _, g1⟩ := may_parts h1
  obtain ⟨_, _, p2, _, g2⟩ := may_parts h2
  have hu := @RatM.terms_unique (sg s0 n0) (sg s1 n1) d0 d1 ⟨by omega, by rw [sg_abs]; exact g0⟩ ⟨by omega, by rw [sg_abs]; exact g1⟩
  have ht := @RatM.cross_trans (sg s0 n0) (sg s1 n1) (sg s2 n2) d0 d1 d2 (by omega) (by omega) (by omega)
  unfold RatM.crossD at ht
  refine ⟨_, _, _, rfl, ?_, rfl, rfl, ?_⟩
  · have c1 := cmpZ_cases (sg s0 n0 * d1 - sg s1 n1 * d0)
    have c2 := cmpZ_cases (sg s1 n1 * d0 - sg s0 n0 * d1)
    omega
  · have c1 := cmpZ_cases (sg s0 n0 * d1 - sg s1 n1 * d0)
    rcases c1 with ⟨c, _⟩ | ⟨c, e⟩ | ⟨c, e⟩
    · left; exact c
    · right; left
      obtain ⟨e1, e2⟩ := hu (by omega)
      refine ⟨c, ?_⟩
      rw [e1, e2]
    · right; right
      refine ⟨c, ?_⟩
      have c2 := cmpZ_cases (sg s1 n1 * d2 - sg s2 n2 * d1)
      have c3 := cmpZ_cases (sg s0 n0 * d2 - sg s2 n2 * d0)
      by_cases h : 0 < cmpZ (sg s1 n1 * d2 - sg s2 n2 * d1)
      · left; exact h
      · right
        have := ht (by omega) (by omega)
        omega
set_option maxRecDepth 100000 in
set_option maxHeartbeats 6400000 in
theorem ratioOrder_walk (s0 : Bool) (n0 d0 : Nat) (s1 : Bool) (n1 d1 : Nat) (s2 : Bool) (n2 d2 : Nat) (a0 : Hid (n0 < M)) (b0 : Hid (d0 < M)) (a1 : Hid (n1 < M)) (b1 : Hid (d1 < M)) (a2 : Hid (n2 < M)) (b2 : Hid (d2 < M)) (w : World) : Calls Try.prog 6 #[.agg (r3 s0 n0 d0 s1 n1 d1 s2 n2 d2)] w (TrueAt6 w) := by
  have HW := Lib.hid (fun w => awake6_any w)
  have M0 := fun w => refmay_any s0 n0 d0 a0 b0 w
  have M1 := fun w => refmay_any s1 n1 d1 a1 b1 w
  have M2 := fun w => refmay_any s2 n2 d2 a2 b2 w
  have FX := fun h0 h1 => fcmp_yes s0 s1 n0 n1 d0 d1 a0 a1 b0 b1 h0 h1
  have FY := fun h1 h0 => fcmp_yes s1 s0 n1 n0 d1 d0 a1 a0 b1 b0 h1 h0
  have FZ := fun h1 h2 => fcmp_yes s1 s2 n1 n2 d1 d2 a1 a2 b1 b2 h1 h2
  have FV := fun h0 h2 => fcmp_yes s0 s2 n0 n2 d0 d2 a0 a2 b0 b2 h0 h2
  have KEY := @order_facts s0 s1 s2 n0 n1 n2 d0 d1 d2
  generalize mayB s0 n0 d0 = q0 at *
  generalize mayB s1 n1 d1 = q1 at *
  generalize mayB s2 n2 d2 = q2 at *
  have FACTS : Hid (q0 = true → q1 = true → q2 = true → ∃ x z v : Int, Hid (∀ w, Calls Try.prog 16 #[rv s0 n0 d0, rv s1 n1 d1] w (Ret (.tuple #[.int .i64 x, .int .i64 0]) w)) ∧ Hid (∀ w, Calls Try.prog 16 #[rv s1 n1 d1, rv s0 n0 d0] w (Ret (.tuple #[.int .i64 (-x), .int .i64 0]) w)) ∧ Hid (∀ w, Calls Try.prog 16 #[rv s1 n1 d1, rv s2 n2 d2] w (Ret (.tuple #[.int .i64 z, .int .i64 0]) w)) ∧ Hid (∀ w, Calls Try.prog 16 #[rv s0 n0 d0, rv s2 n2 d2] w (Ret (.tuple #[.int .i64 v, .int .i64 0]) w)) ∧
    (x = 1 ∨ (x = 0 ∧ v = z) ∨ (x = -1 ∧ (0 < z ∨ v ≤ 0)))) := Lib.hid fun h0 h1 h2 => by
    obtain ⟨x, z, v, e1, e2, e3, e4, hk⟩ := KEY h0 h1 h2
    have A := FX h0 h1
    have B := FY h1 h0
    have C := FZ h1 h2
    have D := FV h0 h2
    rw [e1] at A
    rw [e2] at B
    rw [e3] at C
    rw [e4] at D
    exact ⟨x, z, v, Lib.hid A, Lib.hid B, Lib.hid C, Lib.hid D, hk⟩
  clear FX FY FZ FV KEY a0 a1 a2 b0 b1 b2
  replace M0 := Lib.hid M0
  replace M1 := Lib.hid M1
  replace M2 := Lib.hid M2
  refine enter fun u => ?_
  go_enter Try.func6, Try.ntmps6
  go_wp2_with (first
    | ((with_reducible apply list_box); exact rfl; intro g1 u1))
  go_loopw [3] (fun i wr => ∃ (k : Nat) (u : KW w [⟨g1, r3 s0 n0 d0 s1 n1 d1 s2 n2 d2, 53⟩]), i = .int .i64 k ∧ k ≤ 3 ∧ wr = u.w ∧ Hid ((1 ≤ k → q0 = true) ∧ (2 ≤ k → q1 = true) ∧ (3 ≤ k → q2 = true))) (fun i _ => 3 - (intOf i).toNat)
  case atStart => exact ⟨0, u1, rfl, by decide, rfl, Lib.hid ⟨by omega, by omega, by omega⟩⟩
  case round =>
    clear u1 u
    obtain ⟨k, u, rfl, hk, rfl, HQ⟩ := hrel
    rcases (show k = 0 ∨ k = 1 ∨ k = 2 ∨ k = 3 by omega) with rfl | rfl | rfl | rfl
    · cases q0 with
      | false =>
        go_wp2_with (first
          | ((with_reducible apply ls_load); exact rfl; infer_instance; infer_instance)
          | (go_at_call 13; (with_reducible refine (M0.out _).mono ?_); rintro e w' ⟨rfl, hb'⟩; obtain ⟨_, rfl⟩ := KW.go _ hb'; clear hb')
          | (go_at_call 10; (with_reducible refine (HW.out _).mono ?_); rintro e w' ⟨rfl, hb'⟩; obtain ⟨_, rfl⟩ := KW.go _ hb'; clear hb'))
        go_ret
        exact ⟨rfl, KW.below _⟩
      | true =>
        go_wp2_with (first
          | ((with_reducible apply ls_load); exact rfl; infer_instance; infer_instance)
          | (go_at_call 13; (with_reducible refine (M0.out _).mono ?_); rintro e w' ⟨rfl, hb'⟩; obtain ⟨_, rfl⟩ := KW.go _ hb'; clear hb')
          | (go_at_call 10; (with_reducible refine (HW.out _).mono ?_); rintro e w' ⟨rfl, hb'⟩; obtain ⟨_, rfl⟩ := KW.go _ hb'; clear hb'))
        go_roundw
        case rel => exact ⟨1, _, by go_num, by decide, rfl, Lib.hid ⟨fun _ => by first | rfl | trivial, by omega, by omega⟩⟩
        case measure => simp [intOf]
    · cases q1 with
      | false =>
        go_wp2_with (first
          | ((with_reducible apply ls_load); exact rfl; infer_instance; infer_instance)
          | (go_at_call 13; (with_reducible refine (M1.out _).mono ?_); rintro e w' ⟨rfl, hb'⟩; obtain ⟨_, rfl⟩ := KW.go _ hb'; clear hb')
          | (go_at_call 10; (with_reducible refine (HW.out _).mono ?_); rintro e w' ⟨rfl, hb'⟩; obtain ⟨_, rfl⟩ := KW.go _ hb'; clear hb'))
        go_ret
        exact ⟨rfl, KW.below _⟩
      | true =>
        go_wp2_with (first
          | ((with_reducible apply ls_load); exact rfl; infer_instance; infer_instance)
          | (go_at_call 13; (with_reducible refine (M1.out _).mono ?_); rintro e w' ⟨rfl, hb'⟩; obtain ⟨_, rfl⟩ := KW.go _ hb'; clear hb')
          | (go_at_call 10; (with_reducible refine (HW.out _).mono ?_); rintro e w' ⟨rfl, hb'⟩; obtain ⟨_, rfl⟩ := KW.go _ hb'; clear hb'))
        go_roundw
        case rel => exact ⟨2, _, by go_num, by decide, rfl, Lib.hid ⟨fun _ => HQ.out.1 (by decide), fun _ => by first | rfl | trivial, by omega⟩⟩
        case measure => simp [intOf]
    · cases q2 with
      | false =>
        go_wp2_with (first
          | ((with_reducible apply ls_load); exact rfl; infer_instance; infer_instance)
          | (go_at_call 13; (with_reducible refine (M2.out _).mono ?_); rintro e w' ⟨rfl, hb'⟩; obtain ⟨_, rfl⟩ := KW.go _ hb'; clear hb')
          | (go_at_call 10; (with_reducible refine (HW.out _).mono ?_); rintro e w' ⟨rfl, hb'⟩; obtain ⟨_, rfl⟩ := KW.go _ hb'; clear hb'))
        go_ret
        exact ⟨rfl, KW.below _⟩
      | true =>
        go_wp2_with (first
          | ((with_reducible apply ls_load); exact rfl; infer_instance; infer_instance)
          | (go_at_call 13; (with_reducible refine (M2.out _).mono ?_); rintro e w' ⟨rfl, hb'⟩; obtain ⟨_, rfl⟩ := KW.go _ hb'; clear hb')
          | (go_at_call 10; (with_reducible refine (HW.out _).mono ?_); rintro e w' ⟨rfl, hb'⟩; obtain ⟨_, rfl⟩ := KW.go _ hb'; clear hb'))
        go_roundw
        case rel => exact ⟨3, _, by go_num, by decide, rfl, Lib.hid ⟨fun _ => HQ.out.1 (by decide), fun _ => HQ.out.2.1 (by decide), fun _ => by first | rfl | trivial⟩⟩
        case measure => simp [intOf]
    · obtain ⟨x, z, v, HX, HY, HZ, HV, hc⟩ := FACTS.out (HQ.out.1 (by decide)) (HQ.out.2.1 (by decide)) (HQ.out.2.2 (by decide))
      clear FACTS HQ hk
      rcases hc with rfl | ⟨rfl, rfl⟩ | ⟨rfl, hz | hv⟩
      · go_wp2_with (first
          | ((with_reducible apply ls_load); exact rfl; infer_instance; infer_instance)
          | (go_at_call 16; (with_reducible refine (HX.out _).mono ?_); rintro e w' ⟨rfl, hb'⟩; obtain ⟨_, rfl⟩ := KW.go _ hb'; clear hb')
          | (go_at_call 16; (with_reducible refine (HY.out _).mono ?_); rintro e w' ⟨rfl, hb'⟩; obtain ⟨_, rfl⟩ := KW.go _ hb'; clear hb')
          | (go_at_call 16; (with_reducible refine (HZ.out _).mono ?_); rintro e w' ⟨rfl, hb'⟩; obtain ⟨_, rfl⟩ := KW.go _ hb'; clear hb')
          | (go_at_call 16; (with_reducible refine (HV.out _).mono ?_); rintro e w' ⟨rfl, hb'⟩; obtain ⟨_, rfl⟩ := KW.go _ hb'; clear hb')
          | (go_at_call 10; (with_reducible refine (HW.out _).mono ?_); rintro e w' ⟨rfl, hb'⟩; obtain ⟨_, rfl⟩ := KW.go _ hb'; clear hb'))
        go_ret
        exact ⟨rfl, KW.below _⟩
      · obtain ⟨p, hp⟩ : ∃ p, decide (0 < v) = p := ⟨_, rfl⟩
        have hp2 : decide (v ≤ 0) = !p := by rw [← hp]; by_cases h : 0 < v <;> simp [h] <;> omega
        cases p
        all_goals (
          go_wp2_with (first
            | ((with_reducible apply ls_load); exact rfl; infer_instance; infer_instance)
            | (go_at_call 16; (with_reducible refine (HX.out _).mono ?_); rintro e w' ⟨rfl, hb'⟩; obtain ⟨_, rfl⟩ := KW.go _ hb'; clear hb')
            | (go_at_call 16; (with_reducible refine (HY.out _).mono ?_); rintro e w' ⟨rfl, hb'⟩; obtain ⟨_, rfl⟩ := KW.go _ hb'; clear hb')
            | (go_at_call 16; (with_reducible refine (HZ.out _).mono ?_); rintro e w' ⟨rfl, hb'⟩; obtain ⟨_, rfl⟩ := KW.go _ hb'; clear hb')
            | (go_at_call 16; (with_reducible refine (HV.out _).mono ?_); rintro e w' ⟨rfl, hb'⟩; obtain ⟨_, rfl⟩ := KW.go _ hb'; clear hb')
            | (go_at_call 10; (with_reducible refine (HW.out _).mono ?_); rintro e w' ⟨rfl, hb'⟩; obtain ⟨_, rfl⟩ := KW.go _ hb'; clear hb'))
          go_ret
          exact ⟨rfl, KW.below _⟩)
      · have hp : decide (0 < z) = true := decide_eq_true hz
        clear hz
        go_wp2_with (first
          | ((with_reducible apply ls_load); exact rfl; infer_instance; infer_instance)
          | (go_at_call 16; (with_reducible refine (HX.out _).mono ?_); rintro e w' ⟨rfl, hb'⟩; obtain ⟨_, rfl⟩ := KW.go _ hb'; clear hb')
          | (go_at_call 16; (with_reducible refine (HY.out _).mono ?_); rintro e w' ⟨rfl, hb'⟩; obtain ⟨_, rfl⟩ := KW.go _ hb'; clear hb')
          | (go_at_call 16; (with_reducible refine (HZ.out _).mono ?_); rintro e w' ⟨rfl, hb'⟩; obtain ⟨_, rfl⟩ := KW.go _ hb'; clear hb')
          | (go_at_call 16; (with_reducible refine (HV.out _).mono ?_); rintro e w' ⟨rfl, hb'⟩; obtain ⟨_, rfl⟩ := KW.go _ hb'; clear hb')
          | (go_at_call 10; (with_reducible refine (HW.out _).mono ?_); rintro e w' ⟨rfl, hb'⟩; obtain ⟨_, rfl⟩ := KW.go _ hb'; clear hb'))
        go_ret
        exact ⟨rfl, KW.below _⟩
      · have hp2 : decide (v ≤ 0) = true := decide_eq_true hv
        clear hv
        obtain ⟨p, hp⟩ : ∃ p, decide (0 < z) = p := ⟨_, rfl⟩
        cases p
        all_goals (
          go_wp2_with (first
            | ((with_reducible apply ls_load); exact rfl; infer_instance; infer_instance)
            | (go_at_call 16; (with_reducible refine (HX.out _).mono ?_); rintro e w' ⟨rfl, hb'⟩; obtain ⟨_, rfl⟩ := KW.go _ hb'; clear hb')
            | (go_at_call 16; (with_reducible refine (HY.out _).mono ?_); rintro e w' ⟨rfl, hb'⟩; obtain ⟨_, rfl⟩ := KW.go _ hb'; clear hb')
            | (go_at_call 16; (with_reducible refine (HZ.out _).mono ?_); rintro e w' ⟨rfl, hb'⟩; obtain ⟨_, rfl⟩ := KW.go _ hb'; clear hb')
            | (go_at_call 16; (with_reducible refine (HV.out _).mono ?_); rintro e w' ⟨rfl, hb'⟩; obtain ⟨_, rfl⟩ := KW.go _ hb'; clear hb')
            | (go_at_call 10; (with_reducible refine (HW.out _).mono ?_); rintro e w' ⟨rfl, hb'⟩; obtain ⟨_, rfl⟩ := KW.go _ hb'; clear hb'))
          go_ret
          exact ⟨rfl, KW.below _⟩)
end Go.Proofs.Ytpcbnciihohdjaa.RatW
