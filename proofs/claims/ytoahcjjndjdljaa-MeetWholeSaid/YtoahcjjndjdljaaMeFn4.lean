/-
  package meet: the point of the grid at which lines meet.
-/
import Derived.Test.YtoahcjjndjdljaaMeFn3
import Derived.Test.YtoahcjjndjdljaaLow5
namespace RatM
theorem low_div {Z : Int} {D q : Nat} (hD : 0 < D) (h : Z.natAbs = q * D) : lowD Z D = 1 ∧ lowN Z D * D = Z := by
  have h1 : lowD Z D = 1 := by
    unfold lowD
    rw [h, Nat.gcd_eq_right (Nat.dvd_mul_left D q), Nat.div_self hD]
  refine ⟨h1, ?_⟩
  rw [low_value, h1]; simp
theorem low_ndiv {Z : Int} {D : Nat} (h : ¬D ∣ Z.natAbs) : lowD Z D ≠ 1 := fun h1 => by
  have h2 := lowD_mul (z := Z) (d := D)
  rw [h1, Nat.one_mul] at h2
  exact h (by rw [← h2]; exact Nat.dvd_trans (by rw [h2]; exact Nat.dvd_refl D) (by rw [← h2]; exact Nat.gcd_dvd_left _ _))
end RatM
namespace Go.Proofs.Ytoahcjjndjdljaa.MeW
open Go.RowKit
open KM PtM OrM PtW OrW MeM RatM
theorem mul_ret (a b : Nat) (ha : a < 18446744073709551616) (hb : b < 18446744073709551616) : ∃ h l : Nat, (h < 18446744073709551616 ∧ l < 18446744073709551616 ∧ h * 18446744073709551616 + l = a * b) ∧ ∀ w, Calls Try.prog 41 #[.int .u64 a, .int .u64 b] w (Ret (.tuple #[.int .u64 h, .int .u64 l]) w) := by
  have hlt : a * b / 18446744073709551616 < 18446744073709551616 := by
    have := Nat.mul_lt_mul_of_lt_of_le ha (Nat.le_of_lt hb) (by decide)
    omega
  have hd := Nat.div_add_mod (a * b) 18446744073709551616
  have hm := Nat.mod_lt (a * b) (show 0 < 18446744073709551616 by decide)
  refine ⟨a * b / 18446744073709551616, a * b % 18446744073709551616, ⟨hlt, hm, by omega⟩, fun w => ?_⟩
  refine (DigW.mul_any a b w (Lib.hid ha) (Lib.hid hb)).mono ?_
  rintro e w' ⟨h, l, rfl, hh, rfl⟩
  obtain ⟨h1, h2, h3⟩ := hh.out
  refine ⟨?_, Below.refl _ _⟩
  rw [show h = a * b / 18446744073709551616 by omega, show l = a * b % 18446744073709551616 by omega]
theorem div_ret (a b y : Nat) (h : a < y) (hb : b < 18446744073709551616) (hy : y < 18446744073709551616) : ∃ q r : Nat, (q < 18446744073709551616 ∧ r < y ∧ q * y + r = a * 18446744073709551616 + b) ∧ ∀ w, Calls Try.prog 42 #[.int .u64 a, .int .u64 b, .int .u64 y] w (Ret (.tuple #[.int .u64 q, .int .u64 r, .bool true]) w) := by
  have hpos : 0 < y := by omega
  have e1 := Nat.div_add_mod (a * 18446744073709551616 + b) y
  have e2 := Nat.mod_lt (a * 18446744073709551616 + b) hpos
  have hq : (a * 18446744073709551616 + b) / y < 18446744073709551616 := by
    rw [Nat.div_lt_iff_lt_mul hpos]
    have : (a + 1) * 18446744073709551616 ≤ y * 18446744073709551616 := Nat.mul_le_mul_right _ h
    rw [Nat.mul_comm 18446744073709551616 y]
    omega
  refine ⟨(a * 18446744073709551616 + b) / y, (a * 18446744073709551616 + b) % y, ⟨hq, e2, by rw [Nat.mul_comm]; exact e1⟩, fun w => ?_⟩
  refine (DigW.div_yes a b y w h (Lib.hid hb) (Lib.hid hy)).mono ?_
  rintro e w' ⟨q, r, rfl, hh, n, rfl⟩
  obtain ⟨_, h2, h3⟩ := hh.out
  obtain ⟨rfl, rfl⟩ : q = (a * 18446744073709551616 + b) / y ∧ r = (a * 18446744073709551616 + b) % y := by
    rw [← h3]
    constructor
    · rw [Nat.mul_comm, Nat.mul_add_div hpos, Nat.div_eq_of_lt h2, Nat.add_zero]
    · rw [Nat.mul_comm, Nat.mul_add_mod, Nat.mod_eq_of_lt h2]
  exact ⟨rfl, below_drewN (Below.refl _ _) n⟩
/-- how far, and whether that is a whole number -/
def partO (Z : Int) (D : Nat) : Bool := decide (lowD Z D = 1)
def partN (f Z : Int) (D : Nat) : Int := if partO Z D = true then f + lowN Z D else 0
set_option maxRecDepth 100000 in
set_option maxHeartbeats 6400000 in
theorem part_any (N D : Nat) (f g : Int) (hN : N ≤ D) (hD : 0 < D) (hD' : D ≤ 9223372036854775807) (hf : -536870912 ≤ f ∧ f ≤ 536870912) (hg : -536870912 ≤ g ∧ g ≤ 536870912) (w : World) :
    Calls Try.prog 25 #[.int .i64 (N : Int), .int .i64 (D : Int), .int .i64 f, .int .i64 g] w (Ret (.tuple #[.int .i64 (partN f ((g - f) * N) D), .bool (partO ((g - f) * N) D)]) w) := by
  have w1 : IntKind.i64.wrap (g - f) = g - f := by rw [IntKind.wrap_i64]; omega
  have w2 : IntKind.u64.wrap (N : Int) = N := by rw [IntKind.wrap_u64]; omega
  have w3 : IntKind.u64.wrap (D : Int) = D := by rw [IntKind.wrap_u64]; omega
  have H2 := fun w => two_ret2 (g - f) (by omega) (by omega) w
  have hw : (g - f).natAbs ≤ 1073741824 := by omega
  have hZ : ((g - f) * N).natAbs = N * (g - f).natAbs := by rw [Int.natAbs_mul, Int.natAbs_natCast, Nat.mul_comm]
  have hsg : (g - f < 0 ∧ g - f = -((g - f).natAbs : Int)) ∨ (¬(g - f < 0) ∧ g - f = ((g - f).natAbs : Int)) := by omega
  obtain ⟨h, l, ⟨h1, h2, h3⟩, HM⟩ := mul_ret N (g - f).natAbs (by omega) (by omega)
  have hlt : h < D := by
    have : N * (g - f).natAbs ≤ D * 1073741824 := Nat.mul_le_mul hN hw
    omega
  obtain ⟨q, r, ⟨k1, k2, k3⟩, HV⟩ := div_ret h l D hlt h2 (by omega)
  rw [h3, ← hZ] at k3
  have hq : q ≤ 1073741824 := by
    have : N * (g - f).natAbs ≤ D * 1073741824 := Nat.mul_le_mul hN hw
    rw [← hZ] at this
    have h5 : q * D ≤ 1073741824 * D := by rw [Nat.mul_comm 1073741824 D]; omega
    exact Nat.le_of_mul_le_mul_right h5 hD
  have w4 : IntKind.i64.wrap (q : Int) = q := by rw [IntKind.wrap_i64]; omega
  have w5 : IntKind.i64.wrap (f - q) = f - q := by rw [IntKind.wrap_i64]; omega
  have w6 : IntKind.i64.wrap (f + q) = f + q := by rw [IntKind.wrap_i64]; omega
  by_cases hr : r = 0
  · subst hr
    obtain ⟨l1, l2⟩ := low_div hD (show ((g - f) * N).natAbs = q * D by omega)
    have hO : partO ((g - f) * N) D = true := decide_eq_true l1
    have hV : partN f ((g - f) * N) D = f + lowN ((g - f) * N) D := by unfold partN; rw [if_pos hO]
    rw [hV, hO]
    have hlow : (g - f < 0 → lowN ((g - f) * N) D = -(q : Int)) ∧ (¬(g - f < 0) → lowN ((g - f) * N) D = q) := by
      have hDn : (D : Int) ≠ 0 := by omega
      have hqD : (((g - f) * N).natAbs : Int) = (q : Int) * D := by rw [← k3]; simp
      constructor
      · intro hn
        refine Int.eq_of_mul_eq_mul_right hDn ?_
        rw [l2, Int.neg_mul, ← hqD]
        have : (g - f) * (N : Int) ≤ 0 := Int.mul_nonpos_of_nonpos_of_nonneg (by omega) (by omega)
        omega
      · intro hn
        refine Int.eq_of_mul_eq_mul_right hDn ?_
        rw [l2, ← hqD]
        have : 0 ≤ (g - f) * (N : Int) := Int.mul_nonneg (by omega) (by omega)
        omega
    by_cases hn : g - f < 0
    · rw [hlow.1 hn, show f + -(q : Int) = f - q by omega]
      rw [decide_eq_true hn] at H2
      clear hlow hV hO l1 l2 k1 k2 k3 h1 h2 h3 hlt hsg hZ hw hN hD hD' hf hg hq hn
      generalize ((g - f).natAbs : Int) = W at *
      generalize (N : Int) = N' at *
      generalize (D : Int) = D' at *
      generalize (h : Int) = h' at *
      generalize (l : Int) = l' at *
      generalize (q : Int) = q' at *
      replace H2 := Lib.hid H2
      replace HM := Lib.hid HM
      replace HV := Lib.hid HV
      refine enter fun u => ?_
      go_enter Try.func25, Try.ntmps25
      go_wp2_with (first
        | ((with_reducible refine ls_skip ?_ ?_); (exact rfl); (try simp only [Act.put, List.setIfInBounds_toArray, List.set_cons_succ, List.set_cons_zero]))
        | (go_at_call 40; (with_reducible refine (H2.out _).mono ?_); rintro e w' ⟨rfl, hb'⟩; obtain ⟨_, rfl⟩ := KW.go _ hb'; clear hb')
        | (go_at_call 41; (with_reducible refine (HM.out _).mono ?_); rintro e w' ⟨rfl, hb'⟩; obtain ⟨_, rfl⟩ := KW.go _ hb'; clear hb')
        | (go_at_call 42; (with_reducible refine (HV.out _).mono ?_); rintro e w' ⟨rfl, hb'⟩; obtain ⟨_, rfl⟩ := KW.go _ hb'; clear hb'))
      go_ret2
      exact ⟨rfl, KW.below _⟩
    · rw [hlow.2 hn]
      rw [decide_eq_false hn] at H2
      clear hlow hV hO l1 l2 k1 k2 k3 h1 h2 h3 hlt hsg hZ hw hN hD hD' hf hg hq hn
      generalize ((g - f).natAbs : Int) = W at *
      generalize (N : Int) = N' at *
      generalize (D : Int) = D' at *
      generalize (h : Int) = h' at *
      generalize (l : Int) = l' at *
      generalize (q : Int) = q' at *
      replace H2 := Lib.hid H2
      replace HM := Lib.hid HM
      replace HV := Lib.hid HV
      refine enter fun u => ?_
      go_enter Try.func25, Try.ntmps25
      go_wp2_with (first
        | ((with_reducible refine ls_skip ?_ ?_); (exact rfl); (try simp only [Act.put, List.setIfInBounds_toArray, List.set_cons_succ, List.set_cons_zero]))
        | (go_at_call 40; (with_reducible refine (H2.out _).mono ?_); rintro e w' ⟨rfl, hb'⟩; obtain ⟨_, rfl⟩ := KW.go _ hb'; clear hb')
        | (go_at_call 41; (with_reducible refine (HM.out _).mono ?_); rintro e w' ⟨rfl, hb'⟩; obtain ⟨_, rfl⟩ := KW.go _ hb'; clear hb')
        | (go_at_call 42; (with_reducible refine (HV.out _).mono ?_); rintro e w' ⟨rfl, hb'⟩; obtain ⟨_, rfl⟩ := KW.go _ hb'; clear hb'))
      go_ret2
      exact ⟨rfl, KW.below _⟩
  · have hno : ¬D ∣ ((g - f) * N).natAbs := fun hd => by
      rw [← k3, Nat.dvd_add_right (Nat.dvd_mul_left D q)] at hd
      have := Nat.le_of_dvd (by omega) hd
      omega
    have hO : partO ((g - f) * N) D = false := decide_eq_false (low_ndiv hno)
    have hV : partN f ((g - f) * N) D = 0 := by unfold partN; rw [if_neg (by rw [hO]; decide)]
    rw [hV, hO]
    have b0 : ((r : Int) == 0) = false := by rw [beq_eq_false_iff_ne]; omega
    have b1 : ((r : Int) != 0) = true := by rw [bne, b0]; rfl
    clear hno hV hO k1 k2 k3 h1 h2 h3 hlt hsg hZ hw hN hD hD' hf hg hq hr b0
    generalize decide (g - f < 0) = s at *
    generalize ((g - f).natAbs : Int) = W at *
    generalize (N : Int) = N' at *
    generalize (D : Int) = D' at *
    generalize (h : Int) = h' at *
    generalize (l : Int) = l' at *
    generalize (q : Int) = q' at *
    generalize (r : Int) = r' at *
    replace H2 := Lib.hid H2
    replace HM := Lib.hid HM
    replace HV := Lib.hid HV
    refine enter fun u => ?_
    go_enter Try.func25, Try.ntmps25
    go_wp2_with (first
      | ((with_reducible refine ls_skip ?_ ?_); (exact rfl); (try simp only [Act.put, List.setIfInBounds_toArray, List.set_cons_succ, List.set_cons_zero]))
      | (go_at_call 40; (with_reducible refine (H2.out _).mono ?_); rintro e w' ⟨rfl, hb'⟩; obtain ⟨_, rfl⟩ := KW.go _ hb'; clear hb')
      | (go_at_call 41; (with_reducible refine (HM.out _).mono ?_); rintro e w' ⟨rfl, hb'⟩; obtain ⟨_, rfl⟩ := KW.go _ hb'; clear hb')
      | (go_at_call 42; (with_reducible refine (HV.out _).mono ?_); rintro e w' ⟨rfl, hb'⟩; obtain ⟨_, rfl⟩ := KW.go _ hb'; clear hb'))
    go_ret2
    exact ⟨rfl, KW.below _⟩
/-- a place along a line that may be -/
def placeB (k n e : Int) (x y z u : Int) : Bool := k == 1 && (!decide (e < 1) && (!decide (n < 0) && (!decide (e < n) && lineP x y z u)))
set_option maxRecDepth 100000 in
set_option maxHeartbeats 6400000 in
theorem whole_no (k n m e x1 y1 z1 u1 x y z u : Int) (h : placeB k n e x y z u = false) (w : World) : Calls Try.prog 11 #[mtv k n m e x1 y1 z1 u1, sgv x y z u] w (Ret (.tuple #[ptv 0 0, .bool false]) w) := by
  have HL := fun w => line_any x y z u w
  unfold placeB at h
  generalize lineP x y z u = o at *
  replace HL := Lib.hid HL
  obtain ⟨c1, e1⟩ : ∃ c, (k == 1) = c := ⟨_, rfl⟩
  have e1' : (k != 1) = !c1 := by rw [bne, e1]
  obtain ⟨c2, e2⟩ : ∃ c, decide (e < 1) = c := ⟨_, rfl⟩
  obtain ⟨c3, e3⟩ : ∃ c, decide (n < 0) = c := ⟨_, rfl⟩
  obtain ⟨c4, e4⟩ : ∃ c, decide (e < n) = c := ⟨_, rfl⟩
  rw [e1, e2, e3, e4] at h
  clear e1
  cases c1
  · clear h
    refine enter fun u => ?_
    go_enter Try.func11, Try.ntmps11
    go_wp2_with (first
      | ((with_reducible refine ls_skip ?_ ?_); (exact rfl); (try simp only [Act.put, List.setIfInBounds_toArray, List.set_cons_succ, List.set_cons_zero]))
      | ((with_reducible refine ck_box ?_); refine list_box rfl fun _ _ => ?_)
      | ((with_reducible refine ck_alloc ?_); refine ls_alloc inferInstance fun _ _ => ?_)
      | ((with_reducible refine ck_load ?_); first | refine ls_load rfl inferInstance inferInstance ?_ | refine ls_cell rfl inferInstance inferInstance ?_)
      | ((with_reducible refine ck_gload ?_); first | refine lsg_load rfl rfl inferInstance inferInstance ?_ | refine lsg_cell rfl rfl inferInstance inferInstance ?_)
      | ((with_reducible refine ck_store ?_); refine ls_store rfl rfl inferInstance inferInstance inferInstance fun _ => ?_)
      | ((with_reducible refine ck_build (t := 23) (xs := #[]) ?_); refine ls_Pt_ ?_))
    exact bd_cell_tmp Try.results11 rfl rfl inferInstance inferInstance ⟨rfl, KW.below _⟩
  cases c2
  case true =>
    clear h
    refine enter fun u => ?_
    go_enter Try.func11, Try.ntmps11
    go_wp2_with (first
      | ((with_reducible refine ls_skip ?_ ?_); (exact rfl); (try simp only [Act.put, List.setIfInBounds_toArray, List.set_cons_succ, List.set_cons_zero]))
      | ((with_reducible refine ck_box ?_); refine list_box rfl fun _ _ => ?_)
      | ((with_reducible refine ck_alloc ?_); refine ls_alloc inferInstance fun _ _ => ?_)
      | ((with_reducible refine ck_load ?_); first | refine ls_load rfl inferInstance inferInstance ?_ | refine ls_cell rfl inferInstance inferInstance ?_)
      | ((with_reducible refine ck_gload ?_); first | refine lsg_load rfl rfl inferInstance inferInstance ?_ | refine lsg_cell rfl rfl inferInstance inferInstance ?_)
      | ((with_reducible refine ck_store ?_); refine ls_store rfl rfl inferInstance inferInstance inferInstance fun _ => ?_)
      | ((with_reducible refine ck_build (t := 23) (xs := #[]) ?_); refine ls_Pt_ ?_))
    exact bd_cell_tmp Try.results11 rfl rfl inferInstance inferInstance ⟨rfl, KW.below _⟩
  cases c3
  case true =>
    clear h
    refine enter fun u => ?_
    go_enter Try.func11, Try.ntmps11
    go_wp2_with (first
      | ((with_reducible refine ls_skip ?_ ?_); (exact rfl); (try simp only [Act.put, List.setIfInBounds_toArray, List.set_cons_succ, List.set_cons_zero]))
      | ((with_reducible refine ck_box ?_); refine list_box rfl fun _ _ => ?_)
      | ((with_reducible refine ck_alloc ?_); refine ls_alloc inferInstance fun _ _ => ?_)
      | ((with_reducible refine ck_load ?_); first | refine ls_load rfl inferInstance inferInstance ?_ | refine ls_cell rfl inferInstance inferInstance ?_)
      | ((with_reducible refine ck_gload ?_); first | refine lsg_load rfl rfl inferInstance inferInstance ?_ | refine lsg_cell rfl rfl inferInstance inferInstance ?_)
      | ((with_reducible refine ck_store ?_); refine ls_store rfl rfl inferInstance inferInstance inferInstance fun _ => ?_)
      | ((with_reducible refine ck_build (t := 23) (xs := #[]) ?_); refine ls_Pt_ ?_))
    exact bd_cell_tmp Try.results11 rfl rfl inferInstance inferInstance ⟨rfl, KW.below _⟩
  cases c4
  case true =>
    clear h
    refine enter fun u => ?_
    go_enter Try.func11, Try.ntmps11
    go_wp2_with (first
      | ((with_reducible refine ls_skip ?_ ?_); (exact rfl); (try simp only [Act.put, List.setIfInBounds_toArray, List.set_cons_succ, List.set_cons_zero]))
      | ((with_reducible refine ck_box ?_); refine list_box rfl fun _ _ => ?_)
      | ((with_reducible refine ck_alloc ?_); refine ls_alloc inferInstance fun _ _ => ?_)
      | ((with_reducible refine ck_load ?_); first | refine ls_load rfl inferInstance inferInstance ?_ | refine ls_cell rfl inferInstance inferInstance ?_)
      | ((with_reducible refine ck_gload ?_); first | refine lsg_load rfl rfl inferInstance inferInstance ?_ | refine lsg_cell rfl rfl inferInstance inferInstance ?_)
      | ((with_reducible refine ck_store ?_); refine ls_store rfl rfl inferInstance inferInstance inferInstance fun _ => ?_)
      | ((with_reducible refine ck_build (t := 23) (xs := #[]) ?_); refine ls_Pt_ ?_))
    exact bd_cell_tmp Try.results11 rfl rfl inferInstance inferInstance ⟨rfl, KW.below _⟩
  cases o
  · clear h
    refine enter fun u => ?_
    go_enter Try.func11, Try.ntmps11
    go_wp2_with (first
      | ((with_reducible refine ls_skip ?_ ?_); (exact rfl); (try simp only [Act.put, List.setIfInBounds_toArray, List.set_cons_succ, List.set_cons_zero]))
      | ((with_reducible refine ck_box ?_); refine list_box rfl fun _ _ => ?_)
      | ((with_reducible refine ck_alloc ?_); refine ls_alloc inferInstance fun _ _ => ?_)
      | ((with_reducible refine ck_load ?_); first | refine ls_load rfl inferInstance inferInstance ?_ | refine ls_cell rfl inferInstance inferInstance ?_)
      | ((with_reducible refine ck_gload ?_); first | refine lsg_load rfl rfl inferInstance inferInstance ?_ | refine lsg_cell rfl rfl inferInstance inferInstance ?_)
      | ((with_reducible refine ck_store ?_); refine ls_store rfl rfl inferInstance inferInstance inferInstance fun _ => ?_)
      | ((with_reducible refine ck_build (t := 23) (xs := #[]) ?_); refine ls_Pt_ ?_)
      | (go_at_call 22; (with_reducible refine (HL.out _).mono ?_); rintro e w' ⟨rfl, hb'⟩; obtain ⟨_, rfl⟩ := KW.go _ hb'; clear hb'))
    exact bd_cell_tmp Try.results11 rfl rfl inferInstance inferInstance ⟨rfl, KW.below _⟩
  · cases h
set_option maxRecDepth 100000 in
set_option maxHeartbeats 6400000 in
theorem whole_yes (N D : Nat) (m x1 y1 z1 u1 x y z u : Int) (hN : N ≤ D) (hD : 0 < D) (hD' : D ≤ 9223372036854775807) (h : lineP x y z u = true) (w : World) : Calls Try.prog 11 #[mtv 1 N m D x1 y1 z1 u1, sgv x y z u] w
    (Ret (.tuple #[if (partO ((z - x) * N) D && partO ((u - y) * N) D) = true then ptv (partN x ((z - x) * N) D) (partN y ((u - y) * N) D) else ptv 0 0, .bool (partO ((z - x) * N) D && partO ((u - y) * N) D)]) w) := by
  have HL := fun w => line_any x y z u w
  rw [h] at HL
  obtain ⟨a, b, _⟩ := line_iff.1 h
  obtain ⟨ax, ay⟩ := mayP_iff.1 a
  obtain ⟨bx, by'⟩ := mayP_iff.1 b
  have H1 := fun w => part_any N D x z hN hD hD' ax bx w
  have H2 := fun w => part_any N D y u hN hD hD' ay by' w
  have b1 : decide ((D : Int) < 1) = false := decide_eq_false (by omega)
  have b2 : decide ((N : Int) < 0) = false := decide_eq_false (by omega)
  have b3 : decide ((D : Int) < N) = false := decide_eq_false (by omega)
  generalize partN x ((z - x) * N) D = X at *
  generalize partN y ((u - y) * N) D = Y at *
  generalize partO ((z - x) * N) D = o1 at *
  generalize partO ((u - y) * N) D = o2 at *
  clear hN hD hD' ax ay bx by' h a b
  generalize (N : Int) = N' at *
  generalize (D : Int) = D' at *
  replace HL := Lib.hid HL
  replace H1 := Lib.hid H1
  replace H2 := Lib.hid H2
  cases o1
  · rw [Bool.false_and, if_neg (by decide)]
    refine enter fun u => ?_
    go_enter Try.func11, Try.ntmps11
    go_wp2_with (first
      | ((with_reducible refine ls_skip ?_ ?_); (exact rfl); (try simp only [Act.put, List.setIfInBounds_toArray, List.set_cons_succ, List.set_cons_zero]))
      | ((with_reducible refine ck_box ?_); refine list_box rfl fun _ _ => ?_)
      | ((with_reducible refine ck_alloc ?_); refine ls_alloc inferInstance fun _ _ => ?_)
      | ((with_reducible refine ck_load ?_); first | refine ls_load rfl inferInstance inferInstance ?_ | refine ls_cell rfl inferInstance inferInstance ?_)
      | ((with_reducible refine ck_gload ?_); first | refine lsg_load rfl rfl inferInstance inferInstance ?_ | refine lsg_cell rfl rfl inferInstance inferInstance ?_)
      | ((with_reducible refine ck_store ?_); refine ls_store rfl rfl inferInstance inferInstance inferInstance fun _ => ?_)
      | ((with_reducible refine ck_build (t := 23) (xs := #[]) ?_); refine ls_Pt_ ?_)
      | (go_at_call 22; (with_reducible refine (HL.out _).mono ?_); rintro e w' ⟨rfl, hb'⟩; obtain ⟨_, rfl⟩ := KW.go _ hb'; clear hb')
      | (go_at_call 25; (with_reducible refine (H1.out _).mono ?_); rintro e w' ⟨rfl, hb'⟩; obtain ⟨_, rfl⟩ := KW.go _ hb'; clear hb')
      | (go_at_call 25; (with_reducible refine (H2.out _).mono ?_); rintro e w' ⟨rfl, hb'⟩; obtain ⟨_, rfl⟩ := KW.go _ hb'; clear hb'))
    exact bd_cell_tmp Try.results11 rfl rfl inferInstance inferInstance ⟨rfl, KW.below _⟩
  cases o2
  · rw [Bool.true_and, if_neg (by decide)]
    refine enter fun u => ?_
    go_enter Try.func11, Try.ntmps11
    go_wp2_with (first
      | ((with_reducible refine ls_skip ?_ ?_); (exact rfl); (try simp only [Act.put, List.setIfInBounds_toArray, List.set_cons_succ, List.set_cons_zero]))
      | ((with_reducible refine ck_box ?_); refine list_box rfl fun _ _ => ?_)
      | ((with_reducible refine ck_alloc ?_); refine ls_alloc inferInstance fun _ _ => ?_)
      | ((with_reducible refine ck_load ?_); first | refine ls_load rfl inferInstance inferInstance ?_ | refine ls_cell rfl inferInstance inferInstance ?_)
      | ((with_reducible refine ck_gload ?_); first | refine lsg_load rfl rfl inferInstance inferInstance ?_ | refine lsg_cell rfl rfl inferInstance inferInstance ?_)
      | ((with_reducible refine ck_store ?_); refine ls_store rfl rfl inferInstance inferInstance inferInstance fun _ => ?_)
      | ((with_reducible refine ck_build (t := 23) (xs := #[]) ?_); refine ls_Pt_ ?_)
      | (go_at_call 22; (with_reducible refine (HL.out _).mono ?_); rintro e w' ⟨rfl, hb'⟩; obtain ⟨_, rfl⟩ := KW.go _ hb'; clear hb')
      | (go_at_call 25; (with_reducible refine (H1.out _).mono ?_); rintro e w' ⟨rfl, hb'⟩; obtain ⟨_, rfl⟩ := KW.go _ hb'; clear hb')
      | (go_at_call 25; (with_reducible refine (H2.out _).mono ?_); rintro e w' ⟨rfl, hb'⟩; obtain ⟨_, rfl⟩ := KW.go _ hb'; clear hb'))
    exact bd_cell_tmp Try.results11 rfl rfl inferInstance inferInstance ⟨rfl, KW.below _⟩
  · rw [Bool.true_and, if_pos rfl]
    refine enter fun u => ?_
    go_enter Try.func11, Try.ntmps11
    go_wp2_with (first
      | ((with_reducible refine ls_skip ?_ ?_); (exact rfl); (try simp only [Act.put, List.setIfInBounds_toArray, List.set_cons_succ, List.set_cons_zero]))
      | ((with_reducible refine ck_box ?_); refine list_box rfl fun _ _ => ?_)
      | ((with_reducible refine ck_alloc ?_); refine ls_alloc inferInstance fun _ _ => ?_)
      | ((with_reducible refine ck_load ?_); first | refine ls_load rfl inferInstance inferInstance ?_ | refine ls_cell rfl inferInstance inferInstance ?_)
      | ((with_reducible refine ck_gload ?_); first | refine lsg_load rfl rfl inferInstance inferInstance ?_ | refine lsg_cell rfl rfl inferInstance inferInstance ?_)
      | ((with_reducible refine ck_store ?_); refine ls_store rfl rfl inferInstance inferInstance inferInstance fun _ => ?_)
      | ((with_reducible refine ck_build (t := 23) (xs := #[(0, _), (1, _)]) ?_); refine ls_Pt rfl rfl ?_)
      | (go_at_call 22; (with_reducible refine (HL.out _).mono ?_); rintro e w' ⟨rfl, hb'⟩; obtain ⟨_, rfl⟩ := KW.go _ hb'; clear hb')
      | (go_at_call 25; (with_reducible refine (H1.out _).mono ?_); rintro e w' ⟨rfl, hb'⟩; obtain ⟨_, rfl⟩ := KW.go _ hb'; clear hb')
      | (go_at_call 25; (with_reducible refine (H2.out _).mono ?_); rintro e w' ⟨rfl, hb'⟩; obtain ⟨_, rfl⟩ := KW.go _ hb'; clear hb'))
    exact bd_cell_tmp Try.results11 rfl rfl inferInstance inferInstance ⟨rfl, KW.below _⟩
end Go.Proofs.Ytoahcjjndjdljaa.MeW
