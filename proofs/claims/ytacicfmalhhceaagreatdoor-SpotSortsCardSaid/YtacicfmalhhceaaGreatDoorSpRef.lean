/-
  The document's own answers of layer 10: contracts over the translation.
-/
import Derived.Test.YtacicfmalhhceaaGreatDoorSpFn2
namespace Go.Proofs.YtacicfmalhhceaaGreatDoor.SpW
open Go.RowKit
open DigM WideM WideV KM DigW WideW QuotW QuotM DecM FmtW SignM SignW RatW PtW SpM
open Go.Lib (decDigits nDigits)
set_option maxRecDepth 100000 in
set_option maxHeartbeats 6400000 in
theorem refLow_any (s : Bool) (n : Nat) (t : Bool) (m d : Nat) (hn : Hid (n < M)) (hm : Hid (m < M)) (hd : Hid (d < M)) (hp : 0 < d) (w : World) : Calls Tryz.prog 15 #[iv s n, iv t m, wv d] w (Ret (lowSV s n t m d) w) := by
  have hg : Hid (gS n m d < M) := Lib.hid (gS_lt hp hd.out)
  have hgp : Hid (0 < gS n m d) := Lib.hid (gS_pos hp)
  have HG := fun w => refGcd_any n m hn hm w
  have HH := fun w => refGcd_any (Nat.gcd n m) d (Lib.hid (gcd_lt hn.out hm.out)) hd w
  rw [gS_ref] at HH
  have H1 := fun w => refOver_any n (gS n m d) hn hg hgp w
  have H2 := fun w => refOver_any m (gS n m d) hm hg hgp w
  have H3 := fun w => refOver_any d (gS n m d) hd hg hgp w
  have HX := fun w => rfix_any s (n / gS n m d) (Lib.hid (Nat.lt_of_le_of_lt (Nat.div_le_self _ _) hn.out)) w
  have HY := fun w => rfix_any t (m / gS n m d) (Lib.hid (Nat.lt_of_le_of_lt (Nat.div_le_self _ _) hm.out)) w
  unfold lowSV zsv
  unfold nv at HX HY
  generalize sg s (n / gS n m d) = X at *
  generalize sg t (m / gS n m d) = Y at *
  generalize n / gS n m d = a at *
  generalize n % gS n m d = a' at *
  generalize m / gS n m d = b at *
  generalize m % gS n m d = b' at *
  generalize d / gS n m d = e at *
  generalize d % gS n m d = e' at *
  generalize gS n m d = g at *
  generalize Nat.gcd n m = h at *
  generalize ng X = p at *
  generalize X.natAbs = x at *
  generalize ng Y = q at *
  generalize Y.natAbs = y at *
  replace HG := Lib.hid HG
  replace HH := Lib.hid HH
  replace H1 := Lib.hid H1
  replace H2 := Lib.hid H2
  replace H3 := Lib.hid H3
  replace HX := Lib.hid HX
  replace HY := Lib.hid HY
  clear hp hg hgp
  refine enter fun u => ?_
  go_enter Tryz.func15, Tryz.ntmps15
  go_wp2_with (first
    | ((with_reducible refine ls_skip ?_ ?_); (exact rfl); (try simp only [Act.put, List.setIfInBounds_toArray, List.set_cons_succ, List.set_cons_zero]))
    | ((with_reducible refine ck_box ?_); refine list_box rfl fun _ _ => ?_)
    | ((with_reducible refine ck_alloc ?_); refine ls_alloc inferInstance fun _ _ => ?_))
  refine region_mixS [.take 0, .take 1, .take 2, .take 3, .take 4, .take 5, .take 6, .sole 7, .sole 8] _ (Sub.both (h := Sub.both (h := Sub.both (h := Sub.both (h := Sub.nil))))) (by kernel_rfl) (by kernel_rfl) ?_
  simp only [picksM, Mv.pick, List.filterMap_cons, List.filterMap_nil, List.getElem?_cons_zero, List.getElem?_cons_succ, Option.map_some]
  refine MM.out ?_
  repeat (first
    | ((with_reducible apply mm_load); exact rfl; infer_instance; infer_instance; (try simp only [Act.put, List.setIfInBounds_toArray, List.set_cons_succ, List.set_cons_zero]))
    | ((with_reducible apply mm_cell); exact rfl; infer_instance; infer_instance; (try simp only [Act.put, List.setIfInBounds_toArray, List.set_cons_succ, List.set_cons_zero]))
    | ((with_reducible apply mm_callf (f := 39)); (intro _; go_simp; try exact rfl); (with_reducible exact fun _ u => HG.out _); (try simp only [Act.put, List.setIfInBounds_toArray, List.set_cons_succ, List.set_cons_zero]))
    | ((with_reducible apply mo_callf (f := 39)); infer_instance; (intro _; go_simp; try exact rfl); (with_reducible exact fun u => HG.out _); (try simp only [Act.put, List.setIfInBounds_toArray, List.set_cons_succ, List.set_cons_zero]))
    | ((with_reducible apply mm_callf (f := 39)); (intro _; go_simp; try exact rfl); (with_reducible exact fun _ u => HH.out _); (try simp only [Act.put, List.setIfInBounds_toArray, List.set_cons_succ, List.set_cons_zero]))
    | ((with_reducible apply mo_callf (f := 39)); infer_instance; (intro _; go_simp; try exact rfl); (with_reducible exact fun u => HH.out _); (try simp only [Act.put, List.setIfInBounds_toArray, List.set_cons_succ, List.set_cons_zero]))
    | ((with_reducible apply mm_value); (intro _; go_simp; try exact rfl); (try simp only [Act.put, List.setIfInBounds_toArray, List.set_cons_succ, List.set_cons_zero]))
    | ((with_reducible apply mo_store); exact rfl; exact rfl; infer_instance; infer_instance; infer_instance; infer_instance; (try simp only [Act.put, List.setIfInBounds_toArray, List.set_cons_succ, List.set_cons_zero]))
    | ((with_reducible apply mo_put); exact rfl; exact rfl; infer_instance; infer_instance; infer_instance; infer_instance; (try simp only [Act.put, List.setIfInBounds_toArray, List.set_cons_succ, List.set_cons_zero]))
    | ((with_reducible apply mo_alloc); infer_instance; infer_instance; intro _; (try simp only [Act.put, List.setIfInBounds_toArray, List.set_cons_succ, List.set_cons_zero]))
    | ((with_reducible apply mo_three); (decide); (decide); infer_instance; infer_instance; infer_instance; intro _ _ _; (try simp only [Act.put, List.setIfInBounds_toArray, List.set_cons_succ, List.set_cons_zero]))
    | ((with_reducible apply mo_four); (decide); (decide); infer_instance; infer_instance; infer_instance; infer_instance; intro _ _ _ _; (try simp only [Act.put, List.setIfInBounds_toArray, List.set_cons_succ, List.set_cons_zero]))
    | ((with_reducible apply mo_two); infer_instance; infer_instance; (decide); intro _ _; (try simp only [Act.put, List.setIfInBounds_toArray, List.set_cons_succ, List.set_cons_zero]))
    | ((with_reducible apply mo_load); infer_instance; exact rfl; infer_instance; infer_instance; (try simp only [Act.put, List.setIfInBounds_toArray, List.set_cons_succ, List.set_cons_zero]))
    | ((with_reducible apply mo_cell); infer_instance; exact rfl; infer_instance; infer_instance; (try simp only [Act.put, List.setIfInBounds_toArray, List.set_cons_succ, List.set_cons_zero]))
    | ((with_reducible apply mo_value); infer_instance; (intro _; go_simp; try exact rfl); (try simp only [Act.put, List.setIfInBounds_toArray, List.set_cons_succ, List.set_cons_zero])))
  refine mm_nil fun u7 => ?_
  go_wp2_with (first
    | ((with_reducible refine ls_skip ?_ ?_); (exact rfl); (try simp only [Act.put, List.setIfInBounds_toArray, List.set_cons_succ, List.set_cons_zero]))
    | ((with_reducible refine ck_alloc ?_); refine ls_alloc inferInstance fun _ _ => ?_)
    | ((with_reducible refine ck_load ?_); first | refine ls_load rfl inferInstance inferInstance ?_ | refine ls_cell rfl inferInstance inferInstance ?_)
    | ((with_reducible refine ck_store ?_); refine ls_store rfl rfl inferInstance inferInstance inferInstance fun _ => ?_)
    | (go_at_call 40; (with_reducible refine (H1.out _).mono ?_); rintro e w' ⟨rfl, hb'⟩; obtain ⟨_, rfl⟩ := KW.go _ hb'; clear hb')
    | (go_at_call 40; (with_reducible refine (H2.out _).mono ?_); rintro e w' ⟨rfl, hb'⟩; obtain ⟨_, rfl⟩ := KW.go _ hb'; clear hb')
    | (go_at_call 40; (with_reducible refine (H3.out _).mono ?_); rintro e w' ⟨rfl, hb'⟩; obtain ⟨_, rfl⟩ := KW.go _ hb'; clear hb'))
  refine region_mixS [.take 0, .take 1, .take 2, .take 3, .take 4, .take 5, .take 6, .take 7, .take 8, .take 9, .take 10, .take 11, .sole 12] _ (Sub.both (h := Sub.both (h := Sub.both (h := Sub.both (h := Sub.both (h := Sub.both (h := Sub.both (h := Sub.skip (h := Sub.both (h := Sub.both (h := Sub.both (h := Sub.nil)))))))))))) (by kernel_rfl) (by kernel_rfl) ?_
  simp only [picksM, Mv.pick, List.filterMap_cons, List.filterMap_nil, List.getElem?_cons_zero, List.getElem?_cons_succ, Option.map_some]
  refine MM.out ?_
  repeat (first
    | ((with_reducible apply mm_load); exact rfl; infer_instance; infer_instance; (try simp only [Act.put, List.setIfInBounds_toArray, List.set_cons_succ, List.set_cons_zero]))
    | ((with_reducible apply mm_cell); exact rfl; infer_instance; infer_instance; (try simp only [Act.put, List.setIfInBounds_toArray, List.set_cons_succ, List.set_cons_zero]))
    | ((with_reducible apply mm_I); exact rfl; exact rfl; (try simp only [Act.put, List.setIfInBounds_toArray, List.set_cons_succ, List.set_cons_zero]))
    | ((with_reducible apply mm_Spot); exact rfl; exact rfl; exact rfl; (try simp only [Act.put, List.setIfInBounds_toArray, List.set_cons_succ, List.set_cons_zero]))
    | ((with_reducible apply mm_callf (f := 13)); (intro _; go_simp; try exact rfl); (with_reducible exact fun _ u => HX.out _); (try simp only [Act.put, List.setIfInBounds_toArray, List.set_cons_succ, List.set_cons_zero]))
    | ((with_reducible apply mo_callf (f := 13)); infer_instance; (intro _; go_simp; try exact rfl); (with_reducible exact fun u => HX.out _); (try simp only [Act.put, List.setIfInBounds_toArray, List.set_cons_succ, List.set_cons_zero]))
    | ((with_reducible apply mm_callf (f := 13)); (intro _; go_simp; try exact rfl); (with_reducible exact fun _ u => HY.out _); (try simp only [Act.put, List.setIfInBounds_toArray, List.set_cons_succ, List.set_cons_zero]))
    | ((with_reducible apply mo_callf (f := 13)); infer_instance; (intro _; go_simp; try exact rfl); (with_reducible exact fun u => HY.out _); (try simp only [Act.put, List.setIfInBounds_toArray, List.set_cons_succ, List.set_cons_zero]))
    | ((with_reducible apply mm_value); (intro _; go_simp; try exact rfl); (try simp only [Act.put, List.setIfInBounds_toArray, List.set_cons_succ, List.set_cons_zero]))
    | ((with_reducible apply mo_store); exact rfl; exact rfl; infer_instance; infer_instance; infer_instance; infer_instance; (try simp only [Act.put, List.setIfInBounds_toArray, List.set_cons_succ, List.set_cons_zero]))
    | ((with_reducible apply mo_put); exact rfl; exact rfl; infer_instance; infer_instance; infer_instance; infer_instance; (try simp only [Act.put, List.setIfInBounds_toArray, List.set_cons_succ, List.set_cons_zero]))
    | ((with_reducible apply mo_alloc); infer_instance; infer_instance; intro _; (try simp only [Act.put, List.setIfInBounds_toArray, List.set_cons_succ, List.set_cons_zero]))
    | ((with_reducible apply mo_three); (decide); (decide); infer_instance; infer_instance; infer_instance; intro _ _ _; (try simp only [Act.put, List.setIfInBounds_toArray, List.set_cons_succ, List.set_cons_zero]))
    | ((with_reducible apply mo_four); (decide); (decide); infer_instance; infer_instance; infer_instance; infer_instance; intro _ _ _ _; (try simp only [Act.put, List.setIfInBounds_toArray, List.set_cons_succ, List.set_cons_zero]))
    | ((with_reducible apply mo_two); infer_instance; infer_instance; (decide); intro _ _; (try simp only [Act.put, List.setIfInBounds_toArray, List.set_cons_succ, List.set_cons_zero]))
    | ((with_reducible apply mo_load); infer_instance; exact rfl; infer_instance; infer_instance; (try simp only [Act.put, List.setIfInBounds_toArray, List.set_cons_succ, List.set_cons_zero]))
    | ((with_reducible apply mo_cell); infer_instance; exact rfl; infer_instance; infer_instance; (try simp only [Act.put, List.setIfInBounds_toArray, List.set_cons_succ, List.set_cons_zero]))
    | ((with_reducible apply mo_value); infer_instance; (intro _; go_simp; try exact rfl); (try simp only [Act.put, List.setIfInBounds_toArray, List.set_cons_succ, List.set_cons_zero])))
  refine mm_nil fun u8 => ?_
  go_wp2_with (fail)
  exact bd_cell Tryz.results15 rfl inferInstance inferInstance ⟨rfl, KW.below _⟩
set_option maxRecDepth 100000 in
set_option maxHeartbeats 3200000 in
theorem refsmall_any (n : Nat) (hn : Hid (n < M)) (w : World) : Calls Tryz.prog 38 #[wv n] w (Ret (.bool (decide (bl n ≤ 120))) w) := by
  have HN := Lib.hid (fun w => digits32_any n hn w)
  have LN : Hid (∀ (B₀ : Nat) (v : Value) (ds : List Nat) (w : World), Own B₀ w v ds → Hid (Digits32 n ds) → Calls Tryz.prog 67 #[v] w (Ret (.int .i64 (bl n : Nat)) w)) := Lib.hid fun B₀ v ds w h1 h2 => dlen h1 h2
  have e1 : decide ((bl n : Int) ≤ 120) = decide (bl n ≤ 120) := decide_eq_decide.2 (by omega)
  rw [← e1]
  clear e1
  generalize (bl n : Int) = X at *
  refine enter fun u => ?_
  go_enter Tryz.func38, Tryz.ntmps38
  go_wp2_with (first
      | ((with_reducible apply list_box); exact rfl; intro _ _)
      | ((with_reducible apply ls_load); exact rfl; infer_instance; infer_instance)
      | (go_at_call 68; (with_reducible refine (HN.out _).mono ?_); rintro e w' ⟨v1, ds1, rfl, hD1, hO1, hb'⟩; obtain ⟨_, rfl⟩ := KW.go _ hb'; replace hD1 := Lib.hid hD1; clear hb')
      | (go_at_call 67; (with_reducible refine (LN.out _ v1 ds1 _ hO1 hD1).mono ?_); rintro e w' ⟨rfl, hb'⟩; obtain ⟨_, rfl⟩ := KW.go _ hb'; clear hb'))
  go_ret
  exact ⟨rfl, KW.below _⟩
theorem low_eq (s : Bool) (n : Nat) (t : Bool) (m d : Nat) (h0 : d ≠ 0) :
    (((ng (sg s (n / gS n m d)) == s && eqB (sg s (n / gS n m d)).natAbs n) && ((ng (sg t (m / gS n m d)) == t && eqB (sg t (m / gS n m d)).natAbs m) && eqB (d / gS n m d) d)) : Bool) = lowB s n t m d := by
  unfold lowB
  rw [show eqB d 0 = false from decide_eq_false h0, ng_sg, ng_sg, sg_abs, sg_abs]
  by_cases hg : gS n m d = 1
  · rw [hg, Nat.div_one, Nat.div_one, Nat.div_one, eqB_same, eqB_same, eqB_same, eqB_same]
    generalize eqB n 0 = a
    generalize eqB m 0 = b
    cases s <;> cases t <;> cases a <;> cases b <;> rfl
  · have h1 : eqB (d / gS n m d) d = false := decide_eq_false fun h => hg ((div_self_iff (by omega) (gS_d n m d)).1 h)
    have h2 : eqB (gS n m d) 1 = false := decide_eq_false hg
    rw [h1, h2, Bool.and_false, Bool.and_false, Bool.and_false]
set_option maxRecDepth 100000 in
set_option maxHeartbeats 6400000 in
theorem refMay_any (s : Bool) (n : Nat) (t : Bool) (m d : Nat) (hn : Hid (n < M)) (hm : Hid (m < M)) (hd : Hid (d < M)) (w : World) : Calls Tryz.prog 12 #[spv s n t m d] w (Ret (.bool (mayS s n t m d)) w) := by
  have heq := fun w => eqlW d 0 hd.out M_pos w
  have H1 := fun w => refsmall_any n hn w
  have H2 := fun w => refsmall_any m hm w
  have H3 := fun w => refsmall_any d hd w
  unfold mayS smallS
  by_cases h0 : d = 0
  · subst h0
    have hl : lowB s n t m 0 = false := by unfold lowB; rw [eqB_same]; rfl
    rw [hl, Bool.and_false]
    rw [show eqB 0 0 = true from eqB_same 0] at *
    clear H1 H2 H3
    refine enter fun u => ?_
    go_enter Tryz.func12, Tryz.ntmps12
    go_wp2_with (first
      | ((with_reducible refine ls_skip ?_ ?_); (exact rfl); (try simp only [Act.put, List.setIfInBounds_toArray, List.set_cons_succ, List.set_cons_zero]))
      | ((with_reducible refine ck_box ?_); refine list_box rfl fun _ _ => ?_))
    refine region (by kernel_rfl) (by kernel_rfl) fun _ => ?_
    refine QQ.out ?_
    repeat (first
      | ((with_reducible apply qq_skip); (exact rfl); (try simp only [Act.put, List.setIfInBounds_toArray, List.set_cons_succ, List.set_cons_zero]))
      | ((with_reducible apply qq_load); exact rfl; infer_instance; infer_instance; exact rfl; (try simp only [Act.put, List.setIfInBounds_toArray, List.set_cons_succ, List.set_cons_zero]))
      | ((with_reducible apply qq_cell); exact rfl; infer_instance; infer_instance; exact rfl; (try simp only [Act.put, List.setIfInBounds_toArray, List.set_cons_succ, List.set_cons_zero]))
      | ((with_reducible apply qq_W_); exact rfl; (try simp only [Act.put, List.setIfInBounds_toArray, List.set_cons_succ, List.set_cons_zero]))
      | ((with_reducible apply qq_value); (intro _; go_simp; try exact rfl); exact rfl; (try simp only [Act.put, List.setIfInBounds_toArray, List.set_cons_succ, List.set_cons_zero]))
      | ((with_reducible apply qq_value); (intro _; go_simp; exact Eq.trans (if_neg (by first | omega | (simp only [ByteArray.size_append]; omega) | (simp [ByteArray.size_append]; omega))) rfl); exact rfl; (try simp only [Act.put, List.setIfInBounds_toArray, List.set_cons_succ, List.set_cons_zero])))
    refine qq_nil ?_
    rintro _ ⟨u7, rfl⟩
    go_wp2_with (fail)
    go_ret
    exact ⟨rfl, KW.below _⟩
  · have HL := fun w => refLow_any s n t m d hn hm hd (by omega) w
    have hg : gS n m d < M := gS_lt (by omega) hd.out
    have hq := fun w => eqlSpot (ng (sg s (n / gS n m d))) (sg s (n / gS n m d)).natAbs (ng (sg t (m / gS n m d))) (sg t (m / gS n m d)).natAbs (d / gS n m d) s n t m d (by rw [sg_abs]; exact Nat.lt_of_le_of_lt (Nat.div_le_self _ _) hn.out) (by rw [sg_abs]; exact Nat.lt_of_le_of_lt (Nat.div_le_self _ _) hm.out) (Nat.lt_of_le_of_lt (Nat.div_le_self _ _) hd.out) hn.out hm.out hd.out w
    rw [low_eq s n t m d h0] at hq
    rw [show eqB d 0 = false from decide_eq_false h0] at *
    unfold lowSV zsv at HL
    generalize ng (sg s (n / gS n m d)) = p at *
    generalize (sg s (n / gS n m d)).natAbs = a at *
    generalize ng (sg t (m / gS n m d)) = q at *
    generalize (sg t (m / gS n m d)).natAbs = b at *
    generalize d / gS n m d = e at *
    generalize lowB s n t m d = r at *
    generalize decide (bl n ≤ 120) = b1 at *
    generalize decide (bl m ≤ 120) = b2 at *
    generalize decide (bl d ≤ 120) = b3 at *
    replace HL := Lib.hid HL
    replace H1 := Lib.hid H1
    replace H2 := Lib.hid H2
    replace H3 := Lib.hid H3
    clear h0 hg
    cases b1 <;> cases b2 <;> cases b3
    all_goals (
      refine enter fun u => ?_
      go_enter Tryz.func12, Tryz.ntmps12
      go_wp2_with (first
        | ((with_reducible refine ls_skip ?_ ?_); (exact rfl); (try simp only [Act.put, List.setIfInBounds_toArray, List.set_cons_succ, List.set_cons_zero]))
        | ((with_reducible refine ck_box ?_); refine list_box rfl fun _ _ => ?_))
      refine region (by kernel_rfl) (by kernel_rfl) fun _ => ?_
      refine QQ.out ?_
      repeat (first
        | ((with_reducible apply qq_skip); (exact rfl); (try simp only [Act.put, List.setIfInBounds_toArray, List.set_cons_succ, List.set_cons_zero]))
        | ((with_reducible apply qq_load); exact rfl; infer_instance; infer_instance; exact rfl; (try simp only [Act.put, List.setIfInBounds_toArray, List.set_cons_succ, List.set_cons_zero]))
        | ((with_reducible apply qq_cell); exact rfl; infer_instance; infer_instance; exact rfl; (try simp only [Act.put, List.setIfInBounds_toArray, List.set_cons_succ, List.set_cons_zero]))
        | ((with_reducible apply qq_W_); exact rfl; (try simp only [Act.put, List.setIfInBounds_toArray, List.set_cons_succ, List.set_cons_zero]))
        | ((with_reducible apply qq_callf (f := 38)); (intro _; go_simp; try exact rfl); (with_reducible exact fun u => H1.out _); exact rfl; (try simp only [Act.put, List.setIfInBounds_toArray, List.set_cons_succ, List.set_cons_zero]))
        | ((with_reducible apply qq_callf (f := 38)); (intro _; go_simp; try exact rfl); (with_reducible exact fun u => H2.out _); exact rfl; (try simp only [Act.put, List.setIfInBounds_toArray, List.set_cons_succ, List.set_cons_zero]))
        | ((with_reducible apply qq_callf (f := 38)); (intro _; go_simp; try exact rfl); (with_reducible exact fun u => H3.out _); exact rfl; (try simp only [Act.put, List.setIfInBounds_toArray, List.set_cons_succ, List.set_cons_zero]))
        | ((with_reducible apply qq_callf (f := 15)); (intro _; go_simp; try exact rfl); (with_reducible exact fun u => HL.out _); exact rfl; (try simp only [Act.put, List.setIfInBounds_toArray, List.set_cons_succ, List.set_cons_zero]))
        | ((with_reducible apply qq_value); (intro _; go_simp; try exact rfl); exact rfl; (try simp only [Act.put, List.setIfInBounds_toArray, List.set_cons_succ, List.set_cons_zero]))
        | ((with_reducible apply qq_value); (intro _; go_simp; exact Eq.trans (if_neg (by first | omega | (simp only [ByteArray.size_append]; omega) | (simp [ByteArray.size_append]; omega))) rfl); exact rfl; (try simp only [Act.put, List.setIfInBounds_toArray, List.set_cons_succ, List.set_cons_zero])))
      refine qq_nil ?_
      rintro _ ⟨u7, rfl⟩
      go_wp2_with (fail)
      go_ret
      exact ⟨rfl, KW.below _⟩)
set_option maxRecDepth 100000 in
set_option maxHeartbeats 3200000 in
theorem refAt_any (x y : Int) (hx1 : -9223372036854775808 ≤ x) (hx2 : x ≤ 9223372036854775807) (hy1 : -9223372036854775808 ≤ y) (hy2 : y ≤ 9223372036854775807) (w : World) : Calls Tryz.prog 9 #[ptv x y] w (Ret (zsv x y 1) w) := by
  have HX := fun w => rof_any x hx1 hx2 w
  have HY := fun w => rof_any y hy1 hy2 w
  unfold nv at HX HY
  unfold zsv
  generalize ng x = p at *
  generalize ng y = q at *
  generalize x.natAbs = a at *
  generalize y.natAbs = b at *
  replace HX := Lib.hid HX
  replace HY := Lib.hid HY
  clear hx1 hx2 hy1 hy2
  refine enter fun u => ?_
  go_enter Tryz.func9, Tryz.ntmps9
  go_wp2_with (first
    | ((with_reducible refine ls_skip ?_ ?_); (exact rfl); (try simp only [Act.put, List.setIfInBounds_toArray, List.set_cons_succ, List.set_cons_zero]))
    | ((with_reducible refine ck_box ?_); refine list_box rfl fun _ _ => ?_)
    | ((with_reducible refine ck_alloc ?_); refine ls_alloc inferInstance fun _ _ => ?_))
  refine region_mixS [.take 0, .take 1, .take 2, .take 3, .take 4, .take 5, .take 6, .take 7, .sole 8] _ (Sub.skip (h := Sub.both (h := Sub.nil))) (by kernel_rfl) (by kernel_rfl) ?_
  simp only [picksM, Mv.pick, List.filterMap_cons, List.filterMap_nil, List.getElem?_cons_zero, List.getElem?_cons_succ, Option.map_some]
  refine MM.out ?_
  repeat (first
    | ((with_reducible apply mm_load); exact rfl; infer_instance; infer_instance; (try simp only [Act.put, List.setIfInBounds_toArray, List.set_cons_succ, List.set_cons_zero]))
    | ((with_reducible apply mm_cell); exact rfl; infer_instance; infer_instance; (try simp only [Act.put, List.setIfInBounds_toArray, List.set_cons_succ, List.set_cons_zero]))
    | ((with_reducible apply mm_W_0 (n := 1)); exact rfl; exact lit_B (by omega); (try simp only [Act.put, List.setIfInBounds_toArray, List.set_cons_succ, List.set_cons_zero]))
    | ((with_reducible apply mm_Spot); exact rfl; exact rfl; exact rfl; (try simp only [Act.put, List.setIfInBounds_toArray, List.set_cons_succ, List.set_cons_zero]))
    | ((with_reducible apply mm_callf (f := 35)); (intro _; go_simp; try exact rfl); (with_reducible exact fun _ u => HX.out _); (try simp only [Act.put, List.setIfInBounds_toArray, List.set_cons_succ, List.set_cons_zero]))
    | ((with_reducible apply mo_callf (f := 35)); infer_instance; (intro _; go_simp; try exact rfl); (with_reducible exact fun u => HX.out _); (try simp only [Act.put, List.setIfInBounds_toArray, List.set_cons_succ, List.set_cons_zero]))
    | ((with_reducible apply mm_callf (f := 35)); (intro _; go_simp; try exact rfl); (with_reducible exact fun _ u => HY.out _); (try simp only [Act.put, List.setIfInBounds_toArray, List.set_cons_succ, List.set_cons_zero]))
    | ((with_reducible apply mo_callf (f := 35)); infer_instance; (intro _; go_simp; try exact rfl); (with_reducible exact fun u => HY.out _); (try simp only [Act.put, List.setIfInBounds_toArray, List.set_cons_succ, List.set_cons_zero]))
    | ((with_reducible apply mm_value); (intro _; go_simp; try exact rfl); (try simp only [Act.put, List.setIfInBounds_toArray, List.set_cons_succ, List.set_cons_zero]))
    | ((with_reducible apply mo_store); exact rfl; exact rfl; infer_instance; infer_instance; infer_instance; infer_instance; (try simp only [Act.put, List.setIfInBounds_toArray, List.set_cons_succ, List.set_cons_zero]))
    | ((with_reducible apply mo_put); exact rfl; exact rfl; infer_instance; infer_instance; infer_instance; infer_instance; (try simp only [Act.put, List.setIfInBounds_toArray, List.set_cons_succ, List.set_cons_zero]))
    | ((with_reducible apply mo_alloc); infer_instance; infer_instance; intro _; (try simp only [Act.put, List.setIfInBounds_toArray, List.set_cons_succ, List.set_cons_zero]))
    | ((with_reducible apply mo_three); (decide); (decide); infer_instance; infer_instance; infer_instance; intro _ _ _; (try simp only [Act.put, List.setIfInBounds_toArray, List.set_cons_succ, List.set_cons_zero]))
    | ((with_reducible apply mo_four); (decide); (decide); infer_instance; infer_instance; infer_instance; infer_instance; intro _ _ _ _; (try simp only [Act.put, List.setIfInBounds_toArray, List.set_cons_succ, List.set_cons_zero]))
    | ((with_reducible apply mo_two); infer_instance; infer_instance; (decide); intro _ _; (try simp only [Act.put, List.setIfInBounds_toArray, List.set_cons_succ, List.set_cons_zero]))
    | ((with_reducible apply mo_load); infer_instance; exact rfl; infer_instance; infer_instance; (try simp only [Act.put, List.setIfInBounds_toArray, List.set_cons_succ, List.set_cons_zero]))
    | ((with_reducible apply mo_cell); infer_instance; exact rfl; infer_instance; infer_instance; (try simp only [Act.put, List.setIfInBounds_toArray, List.set_cons_succ, List.set_cons_zero]))
    | ((with_reducible apply mo_value); infer_instance; (intro _; go_simp; try exact rfl); (try simp only [Act.put, List.setIfInBounds_toArray, List.set_cons_succ, List.set_cons_zero])))
  refine mm_nil fun u7 => ?_
  go_wp2_with (fail)
  exact bd_cell Tryz.results9 rfl inferInstance inferInstance ⟨rfl, KW.below _⟩
set_option maxRecDepth 100000 in
set_option maxHeartbeats 3200000 in
theorem refpartS_any (s : Bool) (n : Nat) (t : Bool) (m d e : Nat) (hn : Hid (n < M)) (hm : Hid (m < M)) (hd : Hid (d < M)) (he : Hid (e < M)) (h1 : n * e < M) (h2 : m * d < M) (w : World) : Calls Tryz.prog 45 #[iv s n, iv t m, wv d, wv e] w (Ret (.int .i64 (cmpZ (sg s n * e - sg t m * d))) w) := by
  have HM := fun w => rmul_any s false n e hn he w
  have HN := fun w => rmul_any t false m d hm hd w
  have i1 : (sg s n * e).natAbs < M := by rw [Int.natAbs_mul, sg_abs, Int.natAbs_natCast]; exact h1
  have i2 : (sg t m * d).natAbs < M := by rw [Int.natAbs_mul, sg_abs, Int.natAbs_natCast]; exact h2
  rw [sg_f, fv_fit i1] at HM
  rw [sg_f, fv_fit i2] at HN
  have HC := fun w => rcmp_nv (x := sg s n * e) (y := sg t m * d) (Lib.hid i1) (Lib.hid i2) w
  unfold nv at *
  generalize cmpZ (sg s n * e - sg t m * d) = c at *
  generalize ng (sg s n * e) = p at *
  generalize (sg s n * e).natAbs = x at *
  generalize ng (sg t m * d) = q at *
  generalize (sg t m * d).natAbs = y at *
  replace HM := Lib.hid HM
  replace HN := Lib.hid HN
  replace HC := Lib.hid HC
  clear h1 h2 i1 i2
  refine enter fun u => ?_
  go_enter Tryz.func45, Tryz.ntmps45
  go_wp2_with (first
    | ((with_reducible refine ls_skip ?_ ?_); (exact rfl); (try simp only [Act.put, List.setIfInBounds_toArray, List.set_cons_succ, List.set_cons_zero]))
    | ((with_reducible refine ck_box ?_); refine list_box rfl fun _ _ => ?_)
    | ((with_reducible refine ck_alloc ?_); refine ls_alloc inferInstance fun _ _ => ?_)
    | ((with_reducible refine ck_load ?_); first | refine ls_load rfl inferInstance inferInstance ?_ | refine ls_cell rfl inferInstance inferInstance ?_)
    | ((with_reducible refine ck_store ?_); refine ls_store rfl rfl inferInstance inferInstance inferInstance fun _ => ?_)
    | ((with_reducible refine ck_build (t := 26) (xs := #[(1, _)]) ?_); refine ls_I1 rfl ?_)
    | (go_at_call 75; (with_reducible refine (HM.out _).mono ?_); rintro e w' ⟨rfl, hb'⟩; obtain ⟨_, rfl⟩ := KW.go _ hb'; clear hb')
    | (go_at_call 75; (with_reducible refine (HN.out _).mono ?_); rintro e w' ⟨rfl, hb'⟩; obtain ⟨_, rfl⟩ := KW.go _ hb'; clear hb')
    | (go_at_call 76; (with_reducible refine (HC.out _).mono ?_); rintro e w' ⟨rfl, hb'⟩; obtain ⟨_, rfl⟩ := KW.go _ hb'; clear hb'))
  go_ret
  exact ⟨rfl, KW.below _⟩
section
variable {s t s' t' : Bool} {n m d n' m' d' : Nat} (hn : Hid (n < M)) (hm : Hid (m < M)) (hd : Hid (d < M)) (hn' : Hid (n' < M)) (hm' : Hid (m' < M)) (hd' : Hid (d' < M))
include hn hm hd hn' hm' hd'
set_option maxRecDepth 100000 in
set_option maxHeartbeats 3200000 in
theorem refCmp_any (h1 : mayS s n t m d = true) (h2 : mayS s' n' t' m' d' = true) (w : World) : Calls Tryz.prog 18 #[spv s n t m d, spv s' n' t' m' d'] w (Ret (.int .i64 (ordS (spo s n t m d) (spo s' n' t' m' d'))) w) := by
  obtain ⟨a1, a2, a3, _⟩ := mayS_parts h1
  obtain ⟨b1, b2, b3, _⟩ := mayS_parts h2
  have hT := T_M
  have m1 : n * d' < M := by have := T_mul a1 b3; omega
  have m2 : n' * d < M := by have := T_mul b1 a3; omega
  have m3 : m * d' < M := by have := T_mul a2 b3; omega
  have m4 : m' * d < M := by have := T_mul b2 a3; omega
  have HC := fun w => refpartS_any s n s' n' d d' hn hn' hd hd' m1 m2 w
  have HE := fun w => refpartS_any t m t' m' d d' hm hm' hd hd' m3 m4 w
  unfold ordS spo at *
  dsimp only at *
  generalize cmpZ (sg s n * d' - sg s' n' * d) = c at *
  generalize cmpZ (sg t m * d' - sg t' m' * d) = e at *
  replace HC := Lib.hid HC
  replace HE := Lib.hid HE
  clear h1 h2 a1 a2 a3 b1 b2 b3 hT m1 m2 m3 m4
  by_cases h0 : c = 0
  · rw [if_pos h0]
    subst h0
    refine enter fun u => ?_
    go_enter Tryz.func18, Tryz.ntmps18
    go_wp2_with (first
      | ((with_reducible refine ls_skip ?_ ?_); (exact rfl); (try simp only [Act.put, List.setIfInBounds_toArray, List.set_cons_succ, List.set_cons_zero]))
      | ((with_reducible refine ck_box ?_); refine list_box rfl fun _ _ => ?_)
      | ((with_reducible refine ck_load ?_); first | refine ls_load rfl inferInstance inferInstance ?_ | refine ls_cell rfl inferInstance inferInstance ?_)
      | (go_at_call 45; (with_reducible refine (HC.out _).mono ?_); rintro e w' ⟨rfl, hb'⟩; obtain ⟨_, rfl⟩ := KW.go _ hb'; clear hb')
      | (go_at_call 45; (with_reducible refine (HE.out _).mono ?_); rintro e w' ⟨rfl, hb'⟩; obtain ⟨_, rfl⟩ := KW.go _ hb'; clear hb'))
    go_ret
    exact ⟨rfl, KW.below _⟩
  · rw [if_neg h0]
    have b0 : (c == 0) = false := beq_false_of_ne h0
    have b1 : (c != 0) = true := by rw [bne, b0]; rfl
    clear HE h0
    refine enter fun u => ?_
    go_enter Tryz.func18, Tryz.ntmps18
    go_wp2_with (first
      | ((with_reducible refine ls_skip ?_ ?_); (exact rfl); (try simp only [Act.put, List.setIfInBounds_toArray, List.set_cons_succ, List.set_cons_zero]))
      | ((with_reducible refine ck_box ?_); refine list_box rfl fun _ _ => ?_)
      | ((with_reducible refine ck_load ?_); first | refine ls_load rfl inferInstance inferInstance ?_ | refine ls_cell rfl inferInstance inferInstance ?_)
      | (go_at_call 45; (with_reducible refine (HC.out _).mono ?_); rintro e w' ⟨rfl, hb'⟩; obtain ⟨_, rfl⟩ := KW.go _ hb'; clear hb'))
    go_ret
    exact ⟨rfl, KW.below _⟩
end
set_option maxRecDepth 100000 in
@[simp] theorem fieldMag (s : Bool) (n : Nat) (w : World) : (Instr.field 26 (.agg (ic s n)) 1).run Tryz.prog w = .ok (wv n) w :=
  run_field (by kernel_rfl) (tf := 24) (o := 1) (by kernel_rfl) (fun w => part_row (by rw [cells_size]; exact rowW) (by kernel_rfl) w) w
section
variable {x z n d : Int} (hx : -536870912 ≤ x ∧ x ≤ 536870912) (hz : -536870912 ≤ z ∧ z ≤ 536870912) (h0 : 0 ≤ n) (h1 : n ≤ d) (h2 : d ≤ 9223372036854775807)
include hx hz h0 h1 h2
set_option maxRecDepth 100000 in
set_option maxHeartbeats 3200000 in
theorem way_any (w : World) : Calls Tryz.prog 52 #[.int .i64 x, .int .i64 z, .int .i64 n, .int .i64 d] w (Ret (nv (mixZ x z n d)) w) := by
  obtain ⟨a1, a2, a3⟩ := mix_parts hx hz h0 h1 h2
  have b1 := Nat.lt_of_le_of_lt a1 B92
  have b2 := Nat.lt_of_le_of_lt a2 B92
  have b3 := Nat.lt_of_le_of_lt a3 B93
  have hw : IntKind.i64.wrap (d - n) = d - n := by rw [IntKind.wrap_i64]; omega
  have G1 := fun w => rof_any x (by omega) (by omega) w
  have G2 := fun w => rof_any (d - n) (by omega) (by omega) w
  have G3 := fun w => rof_any z (by omega) (by omega) w
  have G4 := fun w => rof_any n (by omega) (by omega) w
  have H1 := fun w => rmul_nv (x := x) (y := d - n) (Lib.hid (small_M (by omega))) (Lib.hid (small_M (by omega))) w
  have H2 := fun w => rmul_nv (x := z) (y := n) (Lib.hid (small_M (by omega))) (Lib.hid (small_M (by omega))) w
  have H3 := fun w => radd_nv (x := x * (d - n)) (y := z * n) (Lib.hid b1) (Lib.hid b2) w
  rw [fv_fit b1] at H1
  rw [fv_fit b2] at H2
  unfold mixZ at *
  rw [fv_fit b3] at H3
  clear a1 a2 a3 b1 b2 b3 hx hz h0 h1 h2
  unfold nv at *
  generalize x * (d - n) + z * n = e at *
  generalize x * (d - n) = e1 at *
  generalize z * n = e2 at *
  replace G1 := Lib.hid G1
  replace G2 := Lib.hid G2
  replace G3 := Lib.hid G3
  replace G4 := Lib.hid G4
  replace H1 := Lib.hid H1
  replace H2 := Lib.hid H2
  replace H3 := Lib.hid H3
  refine enter fun u => ?_
  go_enter Tryz.func52, Tryz.ntmps52
  go_wp2_with (first
    | ((with_reducible refine ls_skip ?_ ?_); (exact rfl); (try simp only [Act.put, List.setIfInBounds_toArray, List.set_cons_succ, List.set_cons_zero]))
    | ((with_reducible refine ck_alloc ?_); refine ls_alloc inferInstance fun _ _ => ?_)
    | ((with_reducible refine ck_load ?_); first | refine ls_load rfl inferInstance inferInstance ?_ | refine ls_cell rfl inferInstance inferInstance ?_)
    | ((with_reducible refine ck_store ?_); refine ls_store rfl rfl inferInstance inferInstance inferInstance fun _ => ?_)
    | (go_at_call 35; (with_reducible refine (G1.out _).mono ?_); rintro e w' ⟨rfl, hb'⟩; obtain ⟨_, rfl⟩ := KW.go _ hb'; clear hb')
    | (go_at_call 35; (with_reducible refine (G2.out _).mono ?_); rintro e w' ⟨rfl, hb'⟩; obtain ⟨_, rfl⟩ := KW.go _ hb'; clear hb')
    | (go_at_call 35; (with_reducible refine (G3.out _).mono ?_); rintro e w' ⟨rfl, hb'⟩; obtain ⟨_, rfl⟩ := KW.go _ hb'; clear hb')
    | (go_at_call 35; (with_reducible refine (G4.out _).mono ?_); rintro e w' ⟨rfl, hb'⟩; obtain ⟨_, rfl⟩ := KW.go _ hb'; clear hb')
    | (go_at_call 75; (with_reducible refine (H1.out _).mono ?_); rintro e w' ⟨rfl, hb'⟩; obtain ⟨_, rfl⟩ := KW.go _ hb'; clear hb')
    | (go_at_call 75; (with_reducible refine (H2.out _).mono ?_); rintro e w' ⟨rfl, hb'⟩; obtain ⟨_, rfl⟩ := KW.go _ hb'; clear hb')
    | (go_at_call 81; (with_reducible refine (H3.out _).mono ?_); rintro e w' ⟨rfl, hb'⟩; obtain ⟨_, rfl⟩ := KW.go _ hb'; clear hb'))
  exact bd_cell Tryz.results52 rfl inferInstance inferInstance ⟨rfl, KW.below _⟩
end
set_option maxRecDepth 100000 in
set_option maxHeartbeats 3200000 in
theorem refOf_any (x y z u n d : Int) (h : partB x y z u n d = true) (hd : d ≤ 9223372036854775807) (w : World) : Calls Tryz.prog 25 #[sgv x y z u, .int .i64 n, .int .i64 d] w (Ret (ofSV x y z u n d) w) := by
  obtain ⟨hl, h1, h2, h3⟩ := part_parts h
  obtain ⟨bx, hy, hz, hu⟩ := line_in hl
  have HX := fun w => way_any bx hz h2 h3 hd w
  have HY := fun w => way_any hy hu h2 h3 hd w
  obtain ⟨k, rfl⟩ : ∃ k : Nat, d = k := ⟨d.toNat, by omega⟩
  have hk : Hid (k < M) := Lib.hid (small_M (by omega))
  have HW := fun w => rof_any (k : Int) (by omega) hd w
  have HM := fun w => refLow_any (ng (mixZ x z n k)) (mixZ x z n k).natAbs (ng (mixZ y u n k)) (mixZ y u n k).natAbs k (Lib.hid (mix_lt bx hz h2 h3 hd)) (Lib.hid (mix_lt hy hu h2 h3 hd)) hk (by omega) w
  unfold ofSV
  rw [Int.toNat_natCast]
  unfold lowSV zsv nv at *
  rw [Int.natAbs_natCast, show ng (k : Int) = false from decide_eq_false (by omega)] at HW
  generalize sg (ng (mixZ x z n k)) ((mixZ x z n k).natAbs / gS (mixZ x z n k).natAbs (mixZ y u n k).natAbs k) = X at *
  generalize sg (ng (mixZ y u n k)) ((mixZ y u n k).natAbs / gS (mixZ x z n k).natAbs (mixZ y u n k).natAbs k) = Y at *
  generalize k / gS (mixZ x z n k).natAbs (mixZ y u n k).natAbs k = E at *
  generalize mixZ x z n k = mx at *
  generalize mixZ y u n k = my at *
  replace HX := Lib.hid HX
  replace HY := Lib.hid HY
  replace HW := Lib.hid HW
  replace HM := Lib.hid HM
  clear h hl h1 h2 h3 bx hy hz hu hd hk
  refine enter fun u => ?_
  go_enter Tryz.func25, Tryz.ntmps25
  go_wp2_with (first
    | ((with_reducible refine ls_skip ?_ ?_); (exact rfl); (try simp only [Act.put, List.setIfInBounds_toArray, List.set_cons_succ, List.set_cons_zero]))
    | ((with_reducible refine ck_box ?_); refine list_box rfl fun _ _ => ?_)
    | ((with_reducible refine ck_alloc ?_); refine ls_alloc inferInstance fun _ _ => ?_))
  refine region_mixS [.take 0, .take 1, .take 2, .take 3, .take 4, .take 5, .take 6, .take 7, .take 8, .take 9, .take 10, .take 11, .take 12, .take 13, .take 14, .take 15, .take 16, .take 17, .take 18, .take 19, .take 20, .take 21, .sole 22] _ (Sub.skip (h := Sub.both (h := Sub.nil))) (by kernel_rfl) (by kernel_rfl) ?_
  simp only [picksM, Mv.pick, List.filterMap_cons, List.filterMap_nil, List.getElem?_cons_zero, List.getElem?_cons_succ, Option.map_some]
  refine MM.out ?_
  repeat (first
    | ((with_reducible apply mm_load); exact rfl; infer_instance; infer_instance; (try simp only [Act.put, List.setIfInBounds_toArray, List.set_cons_succ, List.set_cons_zero]))
    | ((with_reducible apply mm_cell); exact rfl; infer_instance; infer_instance; (try simp only [Act.put, List.setIfInBounds_toArray, List.set_cons_succ, List.set_cons_zero]))
    | ((with_reducible apply mm_callf (f := 52)); (intro _; go_simp; try exact rfl); (with_reducible exact fun _ u => HX.out _); (try simp only [Act.put, List.setIfInBounds_toArray, List.set_cons_succ, List.set_cons_zero]))
    | ((with_reducible apply mo_callf (f := 52)); infer_instance; (intro _; go_simp; try exact rfl); (with_reducible exact fun u => HX.out _); (try simp only [Act.put, List.setIfInBounds_toArray, List.set_cons_succ, List.set_cons_zero]))
    | ((with_reducible apply mm_callf (f := 52)); (intro _; go_simp; try exact rfl); (with_reducible exact fun _ u => HY.out _); (try simp only [Act.put, List.setIfInBounds_toArray, List.set_cons_succ, List.set_cons_zero]))
    | ((with_reducible apply mo_callf (f := 52)); infer_instance; (intro _; go_simp; try exact rfl); (with_reducible exact fun u => HY.out _); (try simp only [Act.put, List.setIfInBounds_toArray, List.set_cons_succ, List.set_cons_zero]))
    | ((with_reducible apply mm_callf (f := 35)); (intro _; go_simp; try exact rfl); (with_reducible exact fun _ u => HW.out _); (try simp only [Act.put, List.setIfInBounds_toArray, List.set_cons_succ, List.set_cons_zero]))
    | ((with_reducible apply mo_callf (f := 35)); infer_instance; (intro _; go_simp; try exact rfl); (with_reducible exact fun u => HW.out _); (try simp only [Act.put, List.setIfInBounds_toArray, List.set_cons_succ, List.set_cons_zero]))
    | ((with_reducible apply mm_callf (f := 15)); (intro _; go_simp; try exact rfl); (with_reducible exact fun _ u => HM.out _); (try simp only [Act.put, List.setIfInBounds_toArray, List.set_cons_succ, List.set_cons_zero]))
    | ((with_reducible apply mo_callf (f := 15)); infer_instance; (intro _; go_simp; try exact rfl); (with_reducible exact fun u => HM.out _); (try simp only [Act.put, List.setIfInBounds_toArray, List.set_cons_succ, List.set_cons_zero]))
    | ((with_reducible apply mm_value); (intro _; go_simp; try exact rfl); (try simp only [Act.put, List.setIfInBounds_toArray, List.set_cons_succ, List.set_cons_zero]))
    | ((with_reducible apply mo_store); exact rfl; exact rfl; infer_instance; infer_instance; infer_instance; infer_instance; (try simp only [Act.put, List.setIfInBounds_toArray, List.set_cons_succ, List.set_cons_zero]))
    | ((with_reducible apply mo_put); exact rfl; exact rfl; infer_instance; infer_instance; infer_instance; infer_instance; (try simp only [Act.put, List.setIfInBounds_toArray, List.set_cons_succ, List.set_cons_zero]))
    | ((with_reducible apply mo_alloc); infer_instance; infer_instance; intro _; (try simp only [Act.put, List.setIfInBounds_toArray, List.set_cons_succ, List.set_cons_zero]))
    | ((with_reducible apply mo_three); (decide); (decide); infer_instance; infer_instance; infer_instance; intro _ _ _; (try simp only [Act.put, List.setIfInBounds_toArray, List.set_cons_succ, List.set_cons_zero]))
    | ((with_reducible apply mo_four); (decide); (decide); infer_instance; infer_instance; infer_instance; infer_instance; intro _ _ _ _; (try simp only [Act.put, List.setIfInBounds_toArray, List.set_cons_succ, List.set_cons_zero]))
    | ((with_reducible apply mo_two); infer_instance; infer_instance; (decide); intro _ _; (try simp only [Act.put, List.setIfInBounds_toArray, List.set_cons_succ, List.set_cons_zero]))
    | ((with_reducible apply mo_load); infer_instance; exact rfl; infer_instance; infer_instance; (try simp only [Act.put, List.setIfInBounds_toArray, List.set_cons_succ, List.set_cons_zero]))
    | ((with_reducible apply mo_cell); infer_instance; exact rfl; infer_instance; infer_instance; (try simp only [Act.put, List.setIfInBounds_toArray, List.set_cons_succ, List.set_cons_zero]))
    | ((with_reducible apply mo_value); infer_instance; (intro _; go_simp; try exact rfl); (try simp only [Act.put, List.setIfInBounds_toArray, List.set_cons_succ, List.set_cons_zero])))
  refine mm_nil fun u7 => ?_
  go_wp2_with (fail)
  exact bd_cell Tryz.results25 rfl inferInstance inferInstance ⟨rfl, KW.below _⟩
set_option maxRecDepth 100000 in
set_option maxHeartbeats 3200000 in
theorem refTextS_any (s : Bool) (n : Nat) (t : Bool) (m d : Nat) (hn : Hid (n < M)) (hm : Hid (m < M)) (hd : Hid (d < M)) (w : World) : Calls Tryz.prog 20 #[spv s n t m d] w (Ret (.string (stxt s n t m d)) w) := by
  have H1 := fun w => rtext_any s n hn w
  have H2 := fun w => rtext_any t m hm w
  have H3 := fun w => refText_any d hd w
  have z1 : (ba (zdec (sg s n))).size ≤ 201 := by rw [ba_len]; exact zdec_len s hn.out
  have z2 : (ba (zdec (sg t m))).size ≤ 201 := by rw [ba_len]; exact zdec_len t hm.out
  have z3 : (ba (decDigits d)).size ≤ 201 := by rw [ba_len]; have := dec_small d hd.out; omega
  unfold stxt
  unfold vs at H1 H2
  change ∀ w, Calls _ _ _ _ (Ret (.string (ba (zdec (sg s n)))) w) at H1
  change ∀ w, Calls _ _ _ _ (Ret (.string (ba (zdec (sg t m)))) w) at H2
  change ∀ w, Calls _ _ _ _ (Ret (.string (ba (decDigits d))) w) at H3
  generalize ba (zdec (sg s n)) = a at *
  generalize ba (zdec (sg t m)) = b at *
  generalize ba (decDigits d) = c at *
  replace H1 := Lib.hid H1
  replace H2 := Lib.hid H2
  replace H3 := Lib.hid H3
  refine enter fun u => ?_
  go_enter Tryz.func20, Tryz.ntmps20
  go_wp2_with (first
    | ((with_reducible refine ls_skip ?_ ?_); (exact rfl); (try simp only [Act.put, List.setIfInBounds_toArray, List.set_cons_succ, List.set_cons_zero]))
    | ((with_reducible refine ck_box ?_); refine list_box rfl fun _ _ => ?_))
  refine region (by kernel_rfl) (by kernel_rfl) fun _ => ?_
  refine QQ.out ?_
  repeat (first
    | ((with_reducible apply qq_skip); (exact rfl); (try simp only [Act.put, List.setIfInBounds_toArray, List.set_cons_succ, List.set_cons_zero]))
    | ((with_reducible apply qq_load); exact rfl; infer_instance; infer_instance; exact rfl; (try simp only [Act.put, List.setIfInBounds_toArray, List.set_cons_succ, List.set_cons_zero]))
    | ((with_reducible apply qq_cell); exact rfl; infer_instance; infer_instance; exact rfl; (try simp only [Act.put, List.setIfInBounds_toArray, List.set_cons_succ, List.set_cons_zero]))
    | ((with_reducible apply qq_callf (f := 48)); (intro _; go_simp; try exact rfl); (with_reducible exact fun u => H1.out _); exact rfl; (try simp only [Act.put, List.setIfInBounds_toArray, List.set_cons_succ, List.set_cons_zero]))
    | ((with_reducible apply qq_callf (f := 48)); (intro _; go_simp; try exact rfl); (with_reducible exact fun u => H2.out _); exact rfl; (try simp only [Act.put, List.setIfInBounds_toArray, List.set_cons_succ, List.set_cons_zero]))
    | ((with_reducible apply qq_callf (f := 49)); (intro _; go_simp; try exact rfl); (with_reducible exact fun u => H3.out _); exact rfl; (try simp only [Act.put, List.setIfInBounds_toArray, List.set_cons_succ, List.set_cons_zero]))
    | ((with_reducible apply qq_value); (intro _; go_simp; try exact rfl); exact rfl; (try simp only [Act.put, List.setIfInBounds_toArray, List.set_cons_succ, List.set_cons_zero]))
    | ((with_reducible apply qq_value); (intro _; go_simp; exact Eq.trans (if_neg (by first | omega | (simp only [ByteArray.size_append]; omega) | (simp [ByteArray.size_append]; omega))) rfl); exact rfl; (try simp only [Act.put, List.setIfInBounds_toArray, List.set_cons_succ, List.set_cons_zero])))
  refine qq_nil ?_
  rintro _ ⟨u7, rfl⟩
  go_wp2_with (fail)
  go_ret
  exact ⟨rfl, KW.below _⟩
end Go.Proofs.YtacicfmalhhceaaGreatDoor.SpW
