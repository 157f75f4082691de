/-
  The document's layer 9: how lines meet, contracts over the translation.
-/
import Derived.Test.YtoahcjjndjdljaaMeFn3
namespace Go.Proofs.Ytoahcjjndjdljaa.MeW
open Go.RowKit
open KM PtM OrM PtW OrW MeM
section
variable (x y z u s t p q : Int)
abbrev gB (k : Nat) : Bool × Nat × Nat := gI (cB x y z u s t p q) (kB x y z u s t p q) k
/-- as the document tells of lines along one straight line -/
def refS (z u p q FX FY LX LY : Int) : MT := if (FX == LX && FY == LY) = true then ⟨1, if (FX == z && FY == u) = true then 1 else 0, if (FX == p && FY == q) = true then 1 else 0, 1, 0, 0, 0, 0⟩ else ⟨2, 0, 0, 0, FX, FY, LX, LY⟩
def refM (n m e : Int) : MT := if decide (e < 0) = true then ⟨1, -n, -m, -e, 0, 0, 0, 0⟩ else ⟨1, n, m, e, 0, 0, 0, 0⟩
variable {x y z u s t p q}
theorem ref_no {m : Nat} (h : cB x y z u s t p q m = false) : gB x y z u s t p q (m + 1) = gB x y z u s t p q m := by
  unfold gB
  rw [gI, h, if_neg (by decide)]
theorem ref_yes {m : Nat} (h : cB x y z u s t p q m = true) : gB x y z u s t p q (m + 1) =
    (true, if (!(gB x y z u s t p q m).1 || decide (dotV x y z u (pk x z s p m) (pk y u t q m) < dotV x y z u (pk x z s p (gB x y z u s t p q m).2.1) (pk y u t q (gB x y z u s t p q m).2.1))) = true then m else (gB x y z u s t p q m).2.1,
      if (!(gB x y z u s t p q m).1 || decide (dotV x y z u (pk x z s p (gB x y z u s t p q m).2.2) (pk y u t q (gB x y z u s t p q m).2.2) < dotV x y z u (pk x z s p m) (pk y u t q m))) = true then m else (gB x y z u s t p q m).2.2) := by
  unfold gB
  rw [gI, h, if_pos rfl]
  rfl
end
def RfRel (x y z u s t p q : Int) (w : World) (g2 g3 g4 g14 g15 g113 : Nat) (o i : Value) (wr : World) : Prop :=
  ∃ (m : Nat) (b : Bool) (f l : Nat) (v : KW w [⟨g113, p4c x y z u s t p q, 23⟩, ⟨g15, ptc (pk x z s p l) (pk y u t q l), 23⟩, ⟨g14, ptc (pk x z s p f) (pk y u t q f), 23⟩, ⟨g4, mtc 0 0 0 0 0 0 0 0, 27⟩, ⟨g3, sgc s t p q, 25⟩, ⟨g2, sgc x y z u, 25⟩]), (o = .bool b ∧ i = .int .i64 m) ∧ wr = v.w ∧ Hid (m ≤ 4 ∧ gB x y z u s t p q m = (b, f, l))
theorem n_is (x y s t p q : Int) : (s - x) * (q - t) - (t - y) * (p - s) = crs s t p q x y := by unfold crs; grind
theorem m_is (x y z u s t : Int) : (s - x) * (u - y) - (t - y) * (z - x) = -crs x y z u s t := by unfold crs; grind
theorem sub_bd {a b : Int} (h1 : -536870912 ≤ a ∧ a ≤ 536870912) (h2 : -536870912 ≤ b ∧ b ≤ 536870912) : (-1073741824 ≤ a - b ∧ a - b ≤ 1073741824) ∧ IntKind.i64.wrap (a - b) = a - b := by
  refine ⟨by omega, ?_⟩
  rw [IntKind.wrap_i64]; omega
theorem mul_wr {a b : Int} (h1 : -1073741824 ≤ a ∧ a ≤ 1073741824) (h2 : -1073741824 ≤ b ∧ b ≤ 1073741824) : (-1152921504606846976 ≤ a * b ∧ a * b ≤ 1152921504606846976) ∧ IntKind.i64.wrap (a * b) = a * b := by
  have h := mul_bd h1.1 h1.2 h2.1 h2.2
  refine ⟨h, ?_⟩
  rw [IntKind.wrap_i64]; omega
theorem dif_wr {a b : Int} (h1 : -1152921504606846976 ≤ a ∧ a ≤ 1152921504606846976) (h2 : -1152921504606846976 ≤ b ∧ b ≤ 1152921504606846976) : IntKind.i64.wrap (a - b) = a - b ∧ IntKind.i64.wrap (-(a - b)) = -(a - b) := by
  constructor <;> rw [IntKind.wrap_i64] <;> omega
set_option maxRecDepth 100000 in
set_option maxHeartbeats 6400000 in
theorem rmeet_none (x y z u s t p q : Int) (h : touchV x y z u s t p q = false) (w : World) : Calls Try.prog 7 #[sgv x y z u, sgv s t p q] w (Ret zeroM.v w) := by
  have HT := fun w => rtouch_any x y z u s t p q w
  rw [h] at HT
  replace HT := Lib.hid HT
  clear h
  unfold zeroM MT.v
  refine enter fun u => ?_
  go_enter Try.func7, Try.ntmps7
  go_wp2_with (first
    | ((with_reducible refine ls_skip ?_ ?_); (exact rfl); (try simp only [Act.put, List.setIfInBounds_toArray, List.set_cons_succ, List.set_cons_zero]))
    | ((with_reducible refine ck_box ?_); refine list_box rfl fun _ _ => ?_)
    | ((with_reducible refine ck_alloc ?_); refine ls_alloc inferInstance fun _ _ => ?_)
    | ((with_reducible refine ck_load ?_); first | refine ls_load rfl inferInstance inferInstance ?_ | refine ls_cell rfl inferInstance inferInstance ?_)
    | ((with_reducible refine ck_store ?_); refine ls_store rfl rfl inferInstance inferInstance inferInstance fun _ => ?_)
    | ((with_reducible refine ck_build (t := 27) (xs := #[]) ?_); refine ls_Meet_ ?_)
    | (go_at_call 19; (with_reducible refine (HT.out _).mono ?_); rintro e w' ⟨rfl, hb'⟩; obtain ⟨_, rfl⟩ := KW.go _ hb'; clear hb'))
  exact bd_cell Try.results7 rfl inferInstance inferInstance ⟨rfl, KW.below _⟩
set_option maxRecDepth 100000 in
set_option maxHeartbeats 6400000 in
theorem rmeet_cross (x y z u s t p q : Int) (h : touchV x y z u s t p q = true) (h0 : dd x y z u s t p q ≠ 0) (w : World) : Calls Try.prog 7 #[sgv x y z u, sgv s t p q] w
    (Ret (refM (crs s t p q x y) (-crs x y z u s t) (dd x y z u s t p q)).v w) := by
  have HT := fun w => rtouch_any x y z u s t p q w
  rw [h] at HT
  replace HT := Lib.hid HT
  obtain ⟨a1, b1, _⟩ := line_iff.1 (touchV_iff.1 h).1
  obtain ⟨a2, b2, _⟩ := line_iff.1 (touchV_iff.1 h).2.1
  obtain ⟨a1x, a1y⟩ := mayP_iff.1 a1
  obtain ⟨b1x, b1y⟩ := mayP_iff.1 b1
  obtain ⟨a2x, a2y⟩ := mayP_iff.1 a2
  obtain ⟨b2x, b2y⟩ := mayP_iff.1 b2
  obtain ⟨k1, w1⟩ := sub_bd b1x a1x
  obtain ⟨k2, w2⟩ := sub_bd b1y a1y
  obtain ⟨k3, w3⟩ := sub_bd b2x a2x
  obtain ⟨k4, w4⟩ := sub_bd b2y a2y
  obtain ⟨k5, w5⟩ := mul_wr k1 k4
  obtain ⟨k6, w6⟩ := mul_wr k2 k3
  obtain ⟨w7, w8⟩ := dif_wr k5 k6
  obtain ⟨k9, w9⟩ := sub_bd a2x a1x
  obtain ⟨k10, w10⟩ := sub_bd a2y a1y
  obtain ⟨k11, w11⟩ := mul_wr k9 k4
  obtain ⟨k12, w12⟩ := mul_wr k10 k3
  obtain ⟨w13, w14⟩ := dif_wr k11 k12
  obtain ⟨k15, w15⟩ := mul_wr k9 k2
  obtain ⟨k16, w16⟩ := mul_wr k10 k1
  obtain ⟨w17, w18⟩ := dif_wr k15 k16
  rw [← n_is, ← m_is]
  unfold dd at *
  clear k1 k2 k3 k4 k5 k6 k9 k10 k11 k12 k15 k16 a1 b1 a2 b2 a1x a1y b1x b1y a2x a2y b2x b2y h
  replace w1 : ∃ d, IntKind.i64.wrap (z - x) = d ∧ z - x = d := ⟨_, w1, rfl⟩
  replace w2 : ∃ d, IntKind.i64.wrap (u - y) = d ∧ u - y = d := ⟨_, w2, rfl⟩
  replace w3 : ∃ d, IntKind.i64.wrap (p - s) = d ∧ p - s = d := ⟨_, w3, rfl⟩
  replace w4 : ∃ d, IntKind.i64.wrap (q - t) = d ∧ q - t = d := ⟨_, w4, rfl⟩
  obtain ⟨d1, w1, v1⟩ := w1
  obtain ⟨d2, w2, v2⟩ := w2
  obtain ⟨d3, w3, v3⟩ := w3
  obtain ⟨d4, w4, v4⟩ := w4
  replace w9 : ∃ d, IntKind.i64.wrap (s - x) = d ∧ s - x = d := ⟨_, w9, rfl⟩
  replace w10 : ∃ d, IntKind.i64.wrap (t - y) = d ∧ t - y = d := ⟨_, w10, rfl⟩
  obtain ⟨d5, w9, v5⟩ := w9
  obtain ⟨d6, w10, v6⟩ := w10
  rw [v1, v4] at w5
  rw [v2, v3] at w6
  rw [v1, v2, v3, v4] at w7 w8 h0
  rw [v5, v4] at w11
  rw [v6, v3] at w12
  rw [v3, v4, v5, v6] at w13 w14
  rw [v5, v2] at w15
  rw [v6, v1] at w16
  rw [v1, v2, v5, v6] at w17 w18
  rw [v1, v2, v3, v4, v5, v6]
  clear v1 v2 v3 v4 v5 v6
  replace w5 : ∃ d, IntKind.i64.wrap (d1 * d4) = d ∧ d1 * d4 = d := ⟨_, w5, rfl⟩
  obtain ⟨r1, w5, v1⟩ := w5
  rw [v1] at w7 w8 h0 ⊢
  clear v1
  replace w6 : ∃ d, IntKind.i64.wrap (d2 * d3) = d ∧ d2 * d3 = d := ⟨_, w6, rfl⟩
  obtain ⟨r2, w6, v1⟩ := w6
  rw [v1] at w7 w8 h0 ⊢
  clear v1
  replace w11 : ∃ d, IntKind.i64.wrap (d5 * d4) = d ∧ d5 * d4 = d := ⟨_, w11, rfl⟩
  obtain ⟨r3, w11, v1⟩ := w11
  rw [v1] at w13 w14 ⊢
  clear v1
  replace w12 : ∃ d, IntKind.i64.wrap (d6 * d3) = d ∧ d6 * d3 = d := ⟨_, w12, rfl⟩
  obtain ⟨r4, w12, v1⟩ := w12
  rw [v1] at w13 w14 ⊢
  clear v1
  replace w15 : ∃ d, IntKind.i64.wrap (d5 * d2) = d ∧ d5 * d2 = d := ⟨_, w15, rfl⟩
  obtain ⟨r5, w15, v1⟩ := w15
  rw [v1] at w17 w18 ⊢
  clear v1
  replace w16 : ∃ d, IntKind.i64.wrap (d6 * d1) = d ∧ d6 * d1 = d := ⟨_, w16, rfl⟩
  obtain ⟨r6, w16, v1⟩ := w16
  rw [v1] at w17 w18 ⊢
  clear v1
  replace w7 : ∃ d, IntKind.i64.wrap (r1 - r2) = d ∧ r1 - r2 = d := ⟨_, w7, rfl⟩
  obtain ⟨e, w7, v1⟩ := w7
  rw [v1] at w8 h0 ⊢
  clear v1
  replace w13 : ∃ d, IntKind.i64.wrap (r3 - r4) = d ∧ r3 - r4 = d := ⟨_, w13, rfl⟩
  obtain ⟨n, w13, v1⟩ := w13
  rw [v1] at w14 ⊢
  clear v1
  replace w17 : ∃ d, IntKind.i64.wrap (r5 - r6) = d ∧ r5 - r6 = d := ⟨_, w17, rfl⟩
  obtain ⟨m, w17, v1⟩ := w17
  rw [v1] at w18 ⊢
  clear v1
  have e0 : (e == 0) = false := by rw [beq_eq_false_iff_ne]; exact h0
  have e1 : (e != 0) = true := by rw [bne, e0]; rfl
  unfold refM
  obtain ⟨b, hb⟩ : ∃ b, decide (e < 0) = b := ⟨_, rfl⟩
  rw [hb]
  clear h0 e0
  cases b
  · rw [if_neg (by decide)]
    unfold MT.v
    refine enter fun u => ?_
    go_enter Try.func7, Try.ntmps7
    go_wp2_with (first
      | ((with_reducible refine ls_skip ?_ ?_); (exact rfl); (try simp only [Act.put, List.setIfInBounds_toArray, List.set_cons_succ, List.set_cons_zero]))
      | ((with_reducible refine ck_box ?_); refine list_box rfl fun _ _ => ?_)
      | ((with_reducible refine ck_alloc ?_); refine ls_alloc inferInstance fun _ _ => ?_)
      | ((with_reducible refine ck_load ?_); first | refine ls_load rfl inferInstance inferInstance ?_ | refine ls_cell rfl inferInstance inferInstance ?_)
      | ((with_reducible refine ck_store ?_); refine ls_store rfl rfl inferInstance inferInstance inferInstance fun _ => ?_)
      | (go_at_call 19; (with_reducible refine (HT.out _).mono ?_); rintro e w' ⟨rfl, hb'⟩; obtain ⟨_, rfl⟩ := KW.go _ hb'; clear hb'))
    refine region (by kernel_rfl) (by kernel_rfl) fun _ => ?_
    refine QQ.out ?_
    repeat (first
      | ((with_reducible apply qq_skip); (exact rfl); (try simp only [Act.put, List.setIfInBounds_toArray, List.set_cons_succ, List.set_cons_zero]))
      | ((with_reducible apply qq_load); exact rfl; infer_instance; infer_instance; exact rfl; (try simp only [Act.put, List.setIfInBounds_toArray, List.set_cons_succ, List.set_cons_zero]))
      | ((with_reducible apply qq_cell); exact rfl; infer_instance; infer_instance; exact rfl; (try simp only [Act.put, List.setIfInBounds_toArray, List.set_cons_succ, List.set_cons_zero]))
      | ((with_reducible apply qq_value); (intro _; go_simp; try exact rfl); exact rfl; (try simp only [Act.put, List.setIfInBounds_toArray, List.set_cons_succ, List.set_cons_zero])))
    refine qq_nil ?_
    rintro _ ⟨u7, rfl⟩
    go_wp2_with (fail)
    refine region (by kernel_rfl) (by kernel_rfl) fun _ => ?_
    refine QQ.out ?_
    repeat (first
      | ((with_reducible apply qq_skip); (exact rfl); (try simp only [Act.put, List.setIfInBounds_toArray, List.set_cons_succ, List.set_cons_zero]))
      | ((with_reducible apply qq_load); exact rfl; infer_instance; infer_instance; exact rfl; (try simp only [Act.put, List.setIfInBounds_toArray, List.set_cons_succ, List.set_cons_zero]))
      | ((with_reducible apply qq_cell); exact rfl; infer_instance; infer_instance; exact rfl; (try simp only [Act.put, List.setIfInBounds_toArray, List.set_cons_succ, List.set_cons_zero]))
      | ((with_reducible apply qq_value); (intro _; go_simp; try exact rfl); exact rfl; (try simp only [Act.put, List.setIfInBounds_toArray, List.set_cons_succ, List.set_cons_zero])))
    refine qq_nil ?_
    rintro _ ⟨u8, rfl⟩
    go_wp2_with (first
      | ((with_reducible refine ls_skip ?_ ?_); (exact rfl); (try simp only [Act.put, List.setIfInBounds_toArray, List.set_cons_succ, List.set_cons_zero]))
      | ((with_reducible refine ck_load ?_); first | refine ls_load rfl inferInstance inferInstance ?_ | refine ls_cell rfl inferInstance inferInstance ?_)
      | ((with_reducible refine ck_store ?_); refine ls_store rfl rfl inferInstance inferInstance inferInstance fun _ => ?_)
      | ((with_reducible refine ck_build (t := 27) (xs := #[(0, _), (1, _), (2, _), (3, _)]) ?_); refine ls_Meet_0123 rfl rfl rfl rfl ?_))
    exact bd_cell Try.results7 rfl inferInstance inferInstance ⟨rfl, KW.below _⟩
  · rw [if_pos rfl]
    unfold MT.v
    refine enter fun u => ?_
    go_enter Try.func7, Try.ntmps7
    go_wp2_with (first
      | ((with_reducible refine ls_skip ?_ ?_); (exact rfl); (try simp only [Act.put, List.setIfInBounds_toArray, List.set_cons_succ, List.set_cons_zero]))
      | ((with_reducible refine ck_box ?_); refine list_box rfl fun _ _ => ?_)
      | ((with_reducible refine ck_alloc ?_); refine ls_alloc inferInstance fun _ _ => ?_)
      | ((with_reducible refine ck_load ?_); first | refine ls_load rfl inferInstance inferInstance ?_ | refine ls_cell rfl inferInstance inferInstance ?_)
      | ((with_reducible refine ck_store ?_); refine ls_store rfl rfl inferInstance inferInstance inferInstance fun _ => ?_)
      | (go_at_call 19; (with_reducible refine (HT.out _).mono ?_); rintro e w' ⟨rfl, hb'⟩; obtain ⟨_, rfl⟩ := KW.go _ hb'; clear hb'))
    refine region (by kernel_rfl) (by kernel_rfl) fun _ => ?_
    refine QQ.out ?_
    repeat (first
      | ((with_reducible apply qq_skip); (exact rfl); (try simp only [Act.put, List.setIfInBounds_toArray, List.set_cons_succ, List.set_cons_zero]))
      | ((with_reducible apply qq_load); exact rfl; infer_instance; infer_instance; exact rfl; (try simp only [Act.put, List.setIfInBounds_toArray, List.set_cons_succ, List.set_cons_zero]))
      | ((with_reducible apply qq_cell); exact rfl; infer_instance; infer_instance; exact rfl; (try simp only [Act.put, List.setIfInBounds_toArray, List.set_cons_succ, List.set_cons_zero]))
      | ((with_reducible apply qq_value); (intro _; go_simp; try exact rfl); exact rfl; (try simp only [Act.put, List.setIfInBounds_toArray, List.set_cons_succ, List.set_cons_zero])))
    refine qq_nil ?_
    rintro _ ⟨u7, rfl⟩
    go_wp2_with (fail)
    refine region (by kernel_rfl) (by kernel_rfl) fun _ => ?_
    refine QQ.out ?_
    repeat (first
      | ((with_reducible apply qq_skip); (exact rfl); (try simp only [Act.put, List.setIfInBounds_toArray, List.set_cons_succ, List.set_cons_zero]))
      | ((with_reducible apply qq_load); exact rfl; infer_instance; infer_instance; exact rfl; (try simp only [Act.put, List.setIfInBounds_toArray, List.set_cons_succ, List.set_cons_zero]))
      | ((with_reducible apply qq_cell); exact rfl; infer_instance; infer_instance; exact rfl; (try simp only [Act.put, List.setIfInBounds_toArray, List.set_cons_succ, List.set_cons_zero]))
      | ((with_reducible apply qq_value); (intro _; go_simp; try exact rfl); exact rfl; (try simp only [Act.put, List.setIfInBounds_toArray, List.set_cons_succ, List.set_cons_zero])))
    refine qq_nil ?_
    rintro _ ⟨u8, rfl⟩
    go_wp2_with (first
      | ((with_reducible refine ls_skip ?_ ?_); (exact rfl); (try simp only [Act.put, List.setIfInBounds_toArray, List.set_cons_succ, List.set_cons_zero]))
      | ((with_reducible refine ck_load ?_); first | refine ls_load rfl inferInstance inferInstance ?_ | refine ls_cell rfl inferInstance inferInstance ?_)
      | ((with_reducible refine ck_store ?_); refine ls_store rfl rfl inferInstance inferInstance inferInstance fun _ => ?_)
      | ((with_reducible refine ck_build (t := 27) (xs := #[(0, _), (1, _), (2, _), (3, _)]) ?_); refine ls_Meet_0123 rfl rfl rfl rfl ?_))
    exact bd_cell Try.results7 rfl inferInstance inferInstance ⟨rfl, KW.below _⟩
end Go.Proofs.Ytoahcjjndjdljaa.MeW
