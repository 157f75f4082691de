/-
  package meet: lines along one straight line.
-/
import Derived.Test.YtoahcjjndjdljaaMeFn
namespace Go.Proofs.Ytoahcjjndjdljaa.MeW
open Go.RowKit
open KM PtM OrM PtW OrW MeM
/-- one of four numbers -/
def pk (a b c d : Int) : Nat → Int
  | 0 => a
  | 1 => b
  | 2 => c
  | 3 => d
  | _ => 0
def p4c (x y z u s t p q : Int) : Array Value := #[.int .i64 x, .int .i64 y, .int .i64 z, .int .i64 u, .int .i64 s, .int .i64 t, .int .i64 p, .int .i64 q]
set_option maxRecDepth 100000 in
instance sliceP4 (x y z u s t p q : Int) : SliceB Try.prog 46 4 [(0, ptv x y), (1, ptv z u), (2, ptv s t), (3, ptv p q)] 23 (p4c x y z u s t p q) := ⟨by kernel_rfl⟩
theorem part_p4 (x y z u s t p q : Int) : ∀ m, m < 4 → Part Try.prog 23 (p4c x y z u s t p q) (m * 2) (ptc (pk x z s p m) (pk y u t q m))
  | 0, _ => Part.of (rowPt _ _) (by kernel_rfl)
  | 1, _ => Part.of (rowPt _ _) (by kernel_rfl)
  | 2, _ => Part.of (rowPt _ _) (by kernel_rfl)
  | 3, _ => Part.of (rowPt _ _) (by kernel_rfl)
  | m + 4, h => absurd h (by omega)
/-- is the how-manieth end in common? -/
def cB (x y z u s t p q : Int) (k : Nat) : Bool := onV x y z u (pk x z s p k) (pk y u t q k) && onV s t p q (pk x z s p k) (pk y u t q k)
/-- how far along is it? -/
def kB (x y z u s t p q : Int) (k : Nat) : Int := dotV x y z u (pk x z s p k) (pk y u t q k)
section
variable (x y z u s t p q : Int)
abbrev fB (k : Nat) : Nat := fI (cB x y z u s t p q) (kB x y z u s t p q) k
abbrev lB (k : Nat) : Nat := lI (cB x y z u s t p q) (kB x y z u s t p q) k
variable {x y z u s t p q}
theorem on_end (h : lineP x y z u = true) : onV x y z u x y = true ∧ onV x y z u z u = true := by
  obtain ⟨a, b, c⟩ := line_iff.1 h
  exact ⟨onV_iff.2 ⟨h, a, on_a⟩, onV_iff.2 ⟨h, b, on_b⟩⟩
theorem fB_on (h : lineP x y z u = true) (k : Nat) : onV x y z u (pk x z s p (fB x y z u s t p q k)) (pk y u t q (fB x y z u s t p q k)) = true := by
  rcases (fI_le (c := cB x y z u s t p q) (κ := kB x y z u s t p q) k).2.2 with h1 | h1
  · unfold fB; rw [h1]; exact (on_end h).2
  · unfold cB at h1; rw [Bool.and_eq_true] at h1; exact h1.1
theorem lB_on (h : lineP x y z u = true) (k : Nat) : onV x y z u (pk x z s p (lB x y z u s t p q k)) (pk y u t q (lB x y z u s t p q k)) = true := by
  rcases (lI_le (c := cB x y z u s t p q) (κ := kB x y z u s t p q) k).2.2 with h1 | h1
  · unfold lB; rw [h1]; exact (on_end h).1
  · unfold cB at h1; rw [Bool.and_eq_true] at h1; exact h1.1
theorem step_no {m : Nat} (h : cB x y z u s t p q m = false) : fB x y z u s t p q (m + 1) = fB x y z u s t p q m ∧ lB x y z u s t p q (m + 1) = lB x y z u s t p q m := by
  unfold fB lB
  constructor
  · rw [fI, h, Bool.false_and, if_neg (by decide)]
  · rw [lI, h, Bool.false_and, if_neg (by decide)]
theorem order_key {X Y X' Y' : Int} (h1 : onV x y z u X Y = true) (h2 : onV x y z u X' Y' = true) :
    decide (orderV x y z u X Y X' Y' < 0) = decide (dotV x y z u X Y < dotV x y z u X' Y') ∧ decide (0 < orderV x y z u X Y X' Y') = decide (dotV x y z u X' Y' < dotV x y z u X Y) := by
  rw [← order_eq]
  unfold orderR
  rw [h1, h2, if_pos (show (true && true) = true from rfl)]
  have := sgn_cases (dotV x y z u X Y - dotV x y z u X' Y')
  generalize dotV x y z u X Y = A at *
  generalize dotV x y z u X' Y' = B at *
  generalize sgn (A - B) = C at *
  constructor
  · exact decide_eq_decide.2 (by omega)
  · exact decide_eq_decide.2 (by omega)
theorem step_yes {m : Nat} (h1 : lineP x y z u = true) (h : cB x y z u s t p q m = true) :
    (fB x y z u s t p q (m + 1) = if decide (orderV x y z u (pk x z s p m) (pk y u t q m) (pk x z s p (fB x y z u s t p q m)) (pk y u t q (fB x y z u s t p q m)) < 0) = true then m else fB x y z u s t p q m) ∧
    (lB x y z u s t p q (m + 1) = if decide (0 < orderV x y z u (pk x z s p m) (pk y u t q m) (pk x z s p (lB x y z u s t p q m)) (pk y u t q (lB x y z u s t p q m))) = true then m else lB x y z u s t p q m) := by
  have h2 : onV x y z u (pk x z s p m) (pk y u t q m) = true := by unfold cB at h; rw [Bool.and_eq_true] at h; exact h.1
  rw [(order_key h2 (fB_on h1 m)).1, (order_key h2 (lB_on h1 m)).2]
  unfold fB lB
  constructor
  · rw [fI, h, Bool.true_and]; rfl
  · rw [lI, h, Bool.true_and]; rfl
end
def CmRel (x y z u s t p q : Int) (w : World) (g2 g3 g4 g5 g20 : Nat) (i : Value) (wr : World) : Prop :=
  ∃ (m : Nat) (v : KW w [⟨g20, p4c x y z u s t p q, 23⟩, ⟨g5, ptc (pk x z s p (lB x y z u s t p q m)) (pk y u t q (lB x y z u s t p q m)), 23⟩, ⟨g4, ptc (pk x z s p (fB x y z u s t p q m)) (pk y u t q (fB x y z u s t p q m)), 23⟩, ⟨g3, sgc s t p q, 25⟩, ⟨g2, sgc x y z u, 25⟩]), i = .int .i64 m ∧ wr = v.w ∧ Hid (m ≤ 4)
set_option maxRecDepth 100000 in
set_option maxHeartbeats 6400000 in
theorem common_any (x y z u s t p q : Int) (h1 : lineP x y z u = true) (w : World) : Calls Try.prog 32 #[sgv x y z u, sgv s t p q] w
    (Ret (.tuple #[ptv (pk x z s p (fB x y z u s t p q 4)) (pk y u t q (fB x y z u s t p q 4)), ptv (pk x z s p (lB x y z u s t p q 4)) (pk y u t q (lB x y z u s t p q 4))]) w) := by
  replace h1 := Lib.hid h1
  obtain ⟨FX, hFX⟩ : ∃ v, v = pk x z s p (fB x y z u s t p q 4) := ⟨_, rfl⟩
  obtain ⟨FY, hFY⟩ : ∃ v, v = pk y u t q (fB x y z u s t p q 4) := ⟨_, rfl⟩
  obtain ⟨LX, hLX⟩ : ∃ v, v = pk x z s p (lB x y z u s t p q 4) := ⟨_, rfl⟩
  obtain ⟨LY, hLY⟩ : ∃ v, v = pk y u t q (lB x y z u s t p q 4) := ⟨_, rfl⟩
  rw [← hFX, ← hFY, ← hLX, ← hLY]
  replace hFX := Lib.hid hFX
  replace hFY := Lib.hid hFY
  replace hLX := Lib.hid hLX
  replace hLY := Lib.hid hLY
  refine enter fun v => ?_
  go_enter Try.func32, Try.ntmps32
  go_wp2_with (first
    | ((with_reducible refine ls_skip ?_ ?_); (exact rfl); (try simp only [Act.put, List.setIfInBounds_toArray, List.set_cons_succ, List.set_cons_zero]))
    | ((with_reducible refine ck_box ?_); refine list_box rfl fun _ _ => ?_)
    | ((with_reducible refine ck_alloc ?_); refine ls_alloc inferInstance fun _ _ => ?_))
  rename_i g2 v2 g3 v3 g4 v4 g5 v5 _ _
  refine region_mixS [.take 0, .take 1, .take 2, .take 3, .sole 4, .sole 5] _ (Sub.skip (h := Sub.skip (h := Sub.both (h := Sub.both (h := Sub.nil))))) (by kernel_rfl) (by kernel_rfl) ?_
  simp only [picksM, Mv.pick, List.filterMap_cons, List.filterMap_nil, List.getElem?_cons_zero, List.getElem?_cons_succ, Option.map_some]
  refine MM.out ?_
  repeat (first
    | ((with_reducible apply mm_load); exact rfl; infer_instance; infer_instance; (try simp only [Act.put, List.setIfInBounds_toArray, List.set_cons_succ, List.set_cons_zero]))
    | ((with_reducible apply mm_cell); exact rfl; infer_instance; infer_instance; (try simp only [Act.put, List.setIfInBounds_toArray, List.set_cons_succ, List.set_cons_zero]))
    | ((with_reducible apply mm_value); (intro _; go_simp; try exact rfl); (try simp only [Act.put, List.setIfInBounds_toArray, List.set_cons_succ, List.set_cons_zero]))
    | ((with_reducible apply mo_store); exact rfl; exact rfl; infer_instance; infer_instance; infer_instance; infer_instance; (try simp only [Act.put, List.setIfInBounds_toArray, List.set_cons_succ, List.set_cons_zero]))
    | ((with_reducible apply mo_put); exact rfl; exact rfl; infer_instance; infer_instance; infer_instance; infer_instance; (try simp only [Act.put, List.setIfInBounds_toArray, List.set_cons_succ, List.set_cons_zero]))
    | ((with_reducible apply mo_alloc); infer_instance; infer_instance; intro _; (try simp only [Act.put, List.setIfInBounds_toArray, List.set_cons_succ, List.set_cons_zero]))
    | ((with_reducible apply mo_three); (decide); (decide); infer_instance; infer_instance; infer_instance; intro _ _ _; (try simp only [Act.put, List.setIfInBounds_toArray, List.set_cons_succ, List.set_cons_zero]))
    | ((with_reducible apply mo_four); (decide); (decide); infer_instance; infer_instance; infer_instance; infer_instance; intro _ _ _ _; (try simp only [Act.put, List.setIfInBounds_toArray, List.set_cons_succ, List.set_cons_zero]))
    | ((with_reducible apply mo_two); infer_instance; infer_instance; (decide); intro _ _; (try simp only [Act.put, List.setIfInBounds_toArray, List.set_cons_succ, List.set_cons_zero]))
    | ((with_reducible apply mo_load); infer_instance; exact rfl; infer_instance; infer_instance; (try simp only [Act.put, List.setIfInBounds_toArray, List.set_cons_succ, List.set_cons_zero]))
    | ((with_reducible apply mo_cell); infer_instance; exact rfl; infer_instance; infer_instance; (try simp only [Act.put, List.setIfInBounds_toArray, List.set_cons_succ, List.set_cons_zero]))
    | ((with_reducible apply mo_value); infer_instance; (intro _; go_simp; try exact rfl); (try simp only [Act.put, List.setIfInBounds_toArray, List.set_cons_succ, List.set_cons_zero])))
  refine mm_nil fun v6 => ?_
  go_wp2_with (first
    | ((with_reducible refine ls_skip ?_ ?_); (exact rfl); (try simp only [Act.put, List.setIfInBounds_toArray, List.set_cons_succ, List.set_cons_zero]))
    | ((with_reducible refine ck_load ?_); first | refine ls_load rfl inferInstance inferInstance ?_ | refine ls_cell rfl inferInstance inferInstance ?_)
    | ((with_reducible refine ck_slice ?_); refine ls_slice4 rfl rfl rfl rfl inferInstance fun g20 v20 => ?_))
  go_loopw [22] (CmRel x y z u s t p q w g2 g3 g4 g5 g20) (fun i _ => 4 - (intOf i).toNat)
  case atStart => exact ⟨0, _, rfl, rfl, Lib.hid (by decide)⟩
  case round =>
    obtain ⟨m, v, rfl, rfl, hm⟩ := hrel
    by_cases hc : m < 4
    · have b0 : decide ((m : Int) < 4) = true := decide_eq_true (by omega)
      have c0 : IntKind.i64.wrap ((m : Int) + 1) = ((m + 1 : Nat) : Int) := by rw [IntKind.wrap_i64]; omega
      have HN : Hid (m + 1 ≤ 4) := Lib.hid hc
      have HM : Hid (4 - (m + 1) < 4 - m) := Lib.hid (by omega)
      have HP := part_p4 x y z u s t p q m hc
      have HA := fun w => on_any x y z u (pk x z s p m) (pk y u t q m) w
      have HB := fun w => on_any s t p q (pk x z s p m) (pk y u t q m) w
      have hcB : cB x y z u s t p q m = (onV x y z u (pk x z s p m) (pk y u t q m) && onV s t p q (pk x z s p m) (pk y u t q m)) := rfl
      cases e1 : onV x y z u (pk x z s p m) (pk y u t q m) with
      | false =>
        rw [e1, Bool.false_and] at hcB
        obtain ⟨E1, E2⟩ := step_no hcB
        replace E1 := Lib.hid E1
        replace E2 := Lib.hid E2
        rw [e1] at HA
        replace HA := Lib.hid HA
        clear HB hcB e1
        generalize pk x z s p m = X at *
        generalize pk y u t q m = Y at *
        generalize fB x y z u s t p q m = f0 at *
        generalize lB x y z u s t p q m = l0 at *
        go_wp2_with (first
          | ((with_reducible refine ls_skip ?_ ?_); (exact rfl); (try simp only [Act.put, List.setIfInBounds_toArray, List.set_cons_succ, List.set_cons_zero]))
          | ((with_reducible refine ck_alloc ?_); refine ls_alloc inferInstance fun _ _ => ?_)
          | ((with_reducible refine ck_load ?_); first | refine ls_load rfl inferInstance inferInstance ?_ | refine ls_cell rfl inferInstance inferInstance ?_)
          | ((with_reducible refine ck_gload ?_); first | refine lsg_load rfl rfl inferInstance inferInstance ?_ | refine lsg_cell rfl rfl inferInstance inferInstance ?_)
          | ((with_reducible refine ck_store ?_); refine ls_store rfl rfl inferInstance inferInstance inferInstance fun _ => ?_)
          | (go_at_call 53; (with_reducible refine (HA.out _).mono ?_); rintro e w' ⟨rfl, hb'⟩; obtain ⟨_, rfl⟩ := KW.go _ hb'; clear hb'))
        go_roundw
        case rel => exact ⟨m + 1, by rw [E1.out, E2.out]; exact ex_weak inferInstance (by go_num) HN⟩
        case measure => simpa [intOf] using HM.out
      | true =>
        rw [e1, Bool.true_and] at hcB
        rw [e1] at HA
        replace HA := Lib.hid HA
        cases e2 : onV s t p q (pk x z s p m) (pk y u t q m) with
        | false =>
          rw [e2] at hcB
          obtain ⟨E1, E2⟩ := step_no hcB
          replace E1 := Lib.hid E1
          replace E2 := Lib.hid E2
          rw [e2] at HB
          replace HB := Lib.hid HB
          clear hcB e1 e2
          generalize pk x z s p m = X at *
          generalize pk y u t q m = Y at *
          generalize fB x y z u s t p q m = f0 at *
          generalize lB x y z u s t p q m = l0 at *
          go_wp2_with (first
            | ((with_reducible refine ls_skip ?_ ?_); (exact rfl); (try simp only [Act.put, List.setIfInBounds_toArray, List.set_cons_succ, List.set_cons_zero]))
            | ((with_reducible refine ck_alloc ?_); refine ls_alloc inferInstance fun _ _ => ?_)
            | ((with_reducible refine ck_load ?_); first | refine ls_load rfl inferInstance inferInstance ?_ | refine ls_cell rfl inferInstance inferInstance ?_)
            | ((with_reducible refine ck_gload ?_); first | refine lsg_load rfl rfl inferInstance inferInstance ?_ | refine lsg_cell rfl rfl inferInstance inferInstance ?_)
            | ((with_reducible refine ck_store ?_); refine ls_store rfl rfl inferInstance inferInstance inferInstance fun _ => ?_)
            | (go_at_call 53; (with_reducible refine (HA.out _).mono ?_); rintro e w' ⟨rfl, hb'⟩; obtain ⟨_, rfl⟩ := KW.go _ hb'; clear hb')
            | (go_at_call 53; (with_reducible refine (HB.out _).mono ?_); rintro e w' ⟨rfl, hb'⟩; obtain ⟨_, rfl⟩ := KW.go _ hb'; clear hb'))
          go_roundw
          case rel => exact ⟨m + 1, by rw [E1.out, E2.out]; exact ex_weak inferInstance (by go_num) HN⟩
          case measure => simpa [intOf] using HM.out
        | true =>
          rw [e2] at hcB
          obtain ⟨E1, E2⟩ := step_yes h1.out hcB
          rw [e2] at HB
          replace HB := Lib.hid HB
          have HO := fun w => order_any x y z u (pk x z s p m) (pk y u t q m) (pk x z s p (fB x y z u s t p q m)) (pk y u t q (fB x y z u s t p q m)) w
          have HQ := fun w => order_any x y z u (pk x z s p m) (pk y u t q m) (pk x z s p (lB x y z u s t p q m)) (pk y u t q (lB x y z u s t p q m)) w
          generalize orderV x y z u (pk x z s p m) (pk y u t q m) (pk x z s p (fB x y z u s t p q m)) (pk y u t q (fB x y z u s t p q m)) = o1 at *
          generalize orderV x y z u (pk x z s p m) (pk y u t q m) (pk x z s p (lB x y z u s t p q m)) (pk y u t q (lB x y z u s t p q m)) = o2 at *
          obtain ⟨d1, k1⟩ : ∃ d, decide (o1 < 0) = d := ⟨_, rfl⟩
          obtain ⟨d2, k2⟩ : ∃ d, decide (0 < o2) = d := ⟨_, rfl⟩
          rw [k1] at E1
          rw [k2] at E2
          replace HO := Lib.hid HO
          replace HQ := Lib.hid HQ
          clear hcB e1 e2
          cases d1 <;> cases d2 <;> first | rw [if_neg (by decide)] at E1 | rw [if_pos rfl] at E1
          all_goals first | rw [if_neg (by decide)] at E2 | rw [if_pos rfl] at E2
          all_goals (
            replace E1 := Lib.hid E1
            replace E2 := Lib.hid E2
            generalize hX : pk x z s p m = X at *
            generalize hY : pk y u t q m = Y at *
            replace hX := Lib.hid hX
            replace hY := Lib.hid hY
            generalize fB x y z u s t p q m = f0 at *
            generalize lB x y z u s t p q m = l0 at *
            go_wp2_with (first
              | ((with_reducible refine ls_skip ?_ ?_); (exact rfl); (try simp only [Act.put, List.setIfInBounds_toArray, List.set_cons_succ, List.set_cons_zero]))
              | ((with_reducible refine ck_alloc ?_); refine ls_alloc inferInstance fun _ _ => ?_)
              | ((with_reducible refine ck_load ?_); first | refine ls_load rfl inferInstance inferInstance ?_ | refine ls_cell rfl inferInstance inferInstance ?_)
              | ((with_reducible refine ck_gload ?_); first | refine lsg_load rfl rfl inferInstance inferInstance ?_ | refine lsg_cell rfl rfl inferInstance inferInstance ?_)
              | ((with_reducible refine ck_store ?_); refine ls_store rfl rfl inferInstance inferInstance inferInstance fun _ => ?_)
              | (go_at_call 53; (with_reducible refine (HA.out _).mono ?_); rintro e w' ⟨rfl, hb'⟩; obtain ⟨_, rfl⟩ := KW.go _ hb'; clear hb')
              | (go_at_call 53; (with_reducible refine (HB.out _).mono ?_); rintro e w' ⟨rfl, hb'⟩; obtain ⟨_, rfl⟩ := KW.go _ hb'; clear hb')
              | (go_at_call 54; (with_reducible refine (HO.out _).mono ?_); rintro e w' ⟨rfl, hb'⟩; obtain ⟨_, rfl⟩ := KW.go _ hb'; clear hb')
              | (go_at_call 54; (with_reducible refine (HQ.out _).mono ?_); rintro e w' ⟨rfl, hb'⟩; obtain ⟨_, rfl⟩ := KW.go _ hb'; clear hb'))
            go_roundw
            case rel => exact ⟨m + 1, by rw [E1.out, E2.out]; (try rw [hX.out]); (try rw [hY.out]); exact ex_weak inferInstance (by go_num) HN⟩
            case measure => simpa [intOf] using HM.out)
    · obtain rfl : m = 4 := by have := hm.out; omega
      have b0 : decide (((4 : Nat) : Int) < 4) = false := rfl
      clear hc
      revert v
      rw [← hFX.out, ← hFY.out, ← hLX.out, ← hLY.out]
      intro v
      go_wp2_with (fail)
      refine region_fork (by kernel_rfl) ?_
      repeat' (first
        | refine aa_nil (by decide +kernel) fun v7 => ?_
        | (refine aa_one 2 (by decide +kernel) rfl ?_ <;> simp only [List.getElem_toArray, List.getElem_cons_zero, List.getElem_cons_succ])
        | (refine aa_one 1 (by decide +kernel) rfl ?_ <;> simp only [List.getElem_toArray, List.getElem_cons_zero, List.getElem_cons_succ])
        | (refine aa_one 0 (by decide +kernel) rfl ?_ <;> simp only [List.getElem_toArray, List.getElem_cons_zero])
        | (refine aa_one 3 (by decide +kernel) rfl ?_ <;> simp only [List.getElem_toArray, List.getElem_cons_zero, List.getElem_cons_succ])
        | (refine aa_two 0 1 (by decide +kernel) rfl rfl ?_ ?_ <;> simp only [List.getElem_toArray, List.getElem_cons_zero, List.getElem_cons_succ])
        | (refine aa_two 1 2 (by decide +kernel) rfl rfl ?_ ?_ <;> simp only [List.getElem_toArray, List.getElem_cons_zero, List.getElem_cons_succ])
        | ((with_reducible apply se_load); exact rfl; infer_instance; infer_instance; (unfold Nxt; try simp only [Act.put, List.setIfInBounds_toArray, List.set_cons_succ, List.set_cons_zero]))
        | ((with_reducible apply se_cell); exact rfl; infer_instance; infer_instance; (unfold Nxt; try simp only [Act.put, List.setIfInBounds_toArray, List.set_cons_succ, List.set_cons_zero]))
        | ((with_reducible apply se_store); exact rfl; exact rfl; infer_instance; infer_instance; infer_instance; (unfold Nxt; try simp only [Act.put]))
        | ((with_reducible apply se_put); exact rfl; exact rfl; infer_instance; infer_instance; infer_instance; (unfold Nxt; try simp only [Act.put]))
        | ((with_reducible apply se_value); (intro _; go_simp; try exact rfl); (unfold Nxt; try simp only [Act.put, List.setIfInBounds_toArray, List.set_cons_succ, List.set_cons_zero])))
      all_goals (
        go_wp2_with (fail)
        exact bd_cell2 Try.results32 rfl rfl inferInstance inferInstance inferInstance inferInstance ⟨rfl, KW.below _⟩)
end Go.Proofs.Ytoahcjjndjdljaa.MeW
