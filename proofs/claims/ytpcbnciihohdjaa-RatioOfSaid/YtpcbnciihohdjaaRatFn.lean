/-
  package ratio: contracts over the translation.
-/
import Derived.Test.YtpcbnciihohdjaaRat
import Derived.Test.YtpcbnciihohdjaaRatMath
namespace Go.Proofs.Ytpcbnciihohdjaa.RatW
open Go.RowKit
open DigM WideM WideV KM DigW WideW QuotW QuotM DecM FmtW SignM SignW
/-- is a fraction in lowest terms? -/
def termsB (s : Bool) (n d : Nat) : Bool := decide (d ≠ 0 ∧ (s && !eqB n 0) = s ∧ Nat.gcd n d = 1)
def smallB (n d : Nat) : Bool := decide (bl n ≤ 120 ∧ bl d ≤ 120)
/-- may a fraction be? -/
def mayB (s : Bool) (n d : Nat) : Bool := smallB n d && termsB s n d
abbrev lowV (r : Bool) (a b : Nat) : Value := rv (ng (sg r (a / Nat.gcd a b))) (sg r (a / Nat.gcd a b)).natAbs (b / Nat.gcd a b)
set_option maxRecDepth 100000 in
set_option maxHeartbeats 3200000 in
theorem rsmall_any (s : Bool) (n d : Nat) (hn : Hid (n < M)) (hd : Hid (d < M)) (w : World) : Calls Try.prog 34 #[rv s n d] w (Ret (.bool (smallB n d)) w) := by
  have HN := Lib.hid (fun w => wlen8_any n hn w)
  have HD := Lib.hid (fun w => wlen8_any d hd w)
  unfold smallB
  generalize bl n = x at *
  generalize bl d = y at *
  by_cases h1 : x ≤ 120
  · by_cases h2 : y ≤ 120
    · rw [show decide (x ≤ 120 ∧ y ≤ 120) = true from decide_eq_true ⟨h1, h2⟩]
      have e1 : decide ((x : Int) ≤ 120) = true := decide_eq_true (by omega)
      have e2 : decide ((y : Int) ≤ 120) = true := decide_eq_true (by omega)
      clear h1 h2
      refine enter fun u => ?_
      go_enter Try.func34, Try.ntmps34
      go_wp2_with (first
        | ((with_reducible apply list_box); exact rfl; intro _ _)
        | ((with_reducible apply ls_load); exact rfl; infer_instance; infer_instance)
        | ((with_reducible apply lsg_load); rfl; exact rfl; infer_instance; infer_instance)
        | (go_at_call 58; (with_reducible refine (HN.out _).mono ?_); rintro e w' ⟨rfl, hb'⟩; obtain ⟨_, rfl⟩ := KW.go _ hb'; clear hb')
        | (go_at_call 58; (with_reducible refine (HD.out _).mono ?_); rintro e w' ⟨rfl, hb'⟩; obtain ⟨_, rfl⟩ := KW.go _ hb'; clear hb'))
      go_ret
      exact ⟨rfl, KW.below _⟩
    · rw [show decide (x ≤ 120 ∧ y ≤ 120) = false from decide_eq_false fun h => h2 h.2]
      have e1 : decide ((x : Int) ≤ 120) = true := decide_eq_true (by omega)
      have e2 : decide ((y : Int) ≤ 120) = false := decide_eq_false (by omega)
      clear h1 h2
      refine enter fun u => ?_
      go_enter Try.func34, Try.ntmps34
      go_wp2_with (first
        | ((with_reducible apply list_box); exact rfl; intro _ _)
        | ((with_reducible apply ls_load); exact rfl; infer_instance; infer_instance)
        | ((with_reducible apply lsg_load); rfl; exact rfl; infer_instance; infer_instance)
        | (go_at_call 58; (with_reducible refine (HN.out _).mono ?_); rintro e w' ⟨rfl, hb'⟩; obtain ⟨_, rfl⟩ := KW.go _ hb'; clear hb')
        | (go_at_call 58; (with_reducible refine (HD.out _).mono ?_); rintro e w' ⟨rfl, hb'⟩; obtain ⟨_, rfl⟩ := KW.go _ hb'; clear hb'))
      go_ret
      exact ⟨rfl, KW.below _⟩
  · rw [show decide (x ≤ 120 ∧ y ≤ 120) = false from decide_eq_false fun h => h1 h.1]
    have e1 : decide ((x : Int) ≤ 120) = false := decide_eq_false (by omega)
    clear h1
    refine enter fun u => ?_
    go_enter Try.func34, Try.ntmps34
    go_wp2_with (first
      | ((with_reducible apply list_box); exact rfl; intro _ _)
      | ((with_reducible apply ls_load); exact rfl; infer_instance; infer_instance)
      | ((with_reducible apply lsg_load); rfl; exact rfl; infer_instance; infer_instance)
      | (go_at_call 58; (with_reducible refine (HN.out _).mono ?_); rintro e w' ⟨rfl, hb'⟩; obtain ⟨_, rfl⟩ := KW.go _ hb'; clear hb')
      | (go_at_call 58; (with_reducible refine (HD.out _).mono ?_); rintro e w' ⟨rfl, hb'⟩; obtain ⟨_, rfl⟩ := KW.go _ hb'; clear hb'))
    go_ret
    exact ⟨rfl, KW.below _⟩
theorem eqI_fix (s : Bool) (n : Nat) (hn : n < M) (w : World) : (Op.equalIn 10000 26 (.agg (ic (ng (sg s n)) (sg s n).natAbs)) (.agg (ic s n))).run Try.prog w = .ok (decide ((s && !eqB n 0) = s)) w := by
  rw [eqlI _ _ _ _ (by rw [sg_abs]; exact hn) hn w, ng_sg, sg_abs, eqB_same, Bool.and_true]
  generalize eqB n 0 = o
  cases s <;> cases o <;> rfl
theorem gcd_lt {n d : Nat} (hn : n < M) (hd : d < M) : Nat.gcd n d < M := by
  rcases Nat.eq_zero_or_pos n with rfl | h
  · rw [Nat.gcd_zero_left]; exact hd
  · exact Nat.lt_of_le_of_lt (Nat.le_of_dvd h (Nat.gcd_dvd_left _ _)) hn
theorem eqlW1 (g : Nat) (hg : g < M) (w : World) : (Op.equalIn 10000 24 (.agg (cells 8 g)) (.agg (cells 8 1))).run Try.prog w = .ok (eqB g 1) w := eqlW g 1 hg (Nat.lt_trans (by omega : 1 < 18446744073709551617) m_big) w
set_option maxRecDepth 100000 in
set_option maxHeartbeats 3200000 in
theorem rlow_any (s : Bool) (n d : Nat) (hn : Hid (n < M)) (hd : Hid (d < M)) (w : World) : Calls Try.prog 35 #[rv s n d] w (Ret (.bool (termsB s n d)) w) := by
  have HZ := fun w => zero_any d hd.out w
  have HF := fun w => fix_any s n hn w
  have HG := Lib.hid (fun w => gcd_any n d hn hd w)
  have HO : Hid (∀ w, Calls Try.prog 30 #[.int .u64 1] w (Ret (wv 1) w)) := Lib.hid (fun w => of_any 1 (Lib.hid (by omega)) w)
  have heq := fun w => eqI_fix s n hn.out w
  have hg := fun w => eqlW1 (Nat.gcd n d) (gcd_lt hn.out hd.out) w
  have key : termsB s n d = (!eqB d 0 && decide ((s && !eqB n 0) = s) && eqB (Nat.gcd n d) 1) := by
    unfold termsB eqB
    simp only [Bool.decide_and, decide_not, Bool.and_assoc, ne_eq]
  rw [key]
  clear key
  unfold nv at HF
  generalize Nat.gcd n d = g at *
  generalize eqB g 1 = b3 at *
  generalize decide ((s && !eqB n 0) = s) = b2 at *
  generalize eqB d 0 = b1 at *
  generalize ng (sg s n) = p at *
  generalize (sg s n).natAbs = m at *
  replace HZ := Lib.hid HZ
  replace HF := Lib.hid HF
  cases b1 <;> cases b2
  all_goals (
    refine enter fun u => ?_
    go_enter Try.func35, Try.ntmps35
    go_wp2_with (first
      | ((with_reducible apply list_box); exact rfl; intro _ _))
    refine region (by kernel_rfl) (by kernel_rfl) fun _ => ?_
    refine QQ.out ?_
    repeat (first
      | ((with_reducible apply qq_skip); (exact rfl); (try simp only [Act.put, List.setIfInBounds_toArray, List.set_cons_succ, List.set_cons_zero]))
      | ((with_reducible apply qq_load); exact rfl; infer_instance; infer_instance; exact rfl; (try simp only [Act.put, List.setIfInBounds_toArray, List.set_cons_succ, List.set_cons_zero]))
      | ((with_reducible apply qq_cell); exact rfl; infer_instance; infer_instance; exact rfl; (try simp only [Act.put, List.setIfInBounds_toArray, List.set_cons_succ, List.set_cons_zero]))
      | ((with_reducible apply qq_callf (f := 27)); (intro _; go_simp; try exact rfl); (with_reducible exact fun u => HZ.out _); exact rfl; (try simp only [Act.put, List.setIfInBounds_toArray, List.set_cons_succ, List.set_cons_zero]))
      | ((with_reducible apply qq_callf (f := 56)); (intro _; go_simp; try exact rfl); (with_reducible exact fun u => HF.out _); exact rfl; (try simp only [Act.put, List.setIfInBounds_toArray, List.set_cons_succ, List.set_cons_zero]))
      | ((with_reducible apply qq_callf (f := 54)); (intro _; go_simp; try exact rfl); (with_reducible exact fun u => HG.out _); exact rfl; (try simp only [Act.put, List.setIfInBounds_toArray, List.set_cons_succ, List.set_cons_zero]))
      | ((with_reducible apply qq_callf (f := 30)); (intro _; go_simp; try exact rfl); (with_reducible exact fun u => HO.out _); exact rfl; (try simp only [Act.put, List.setIfInBounds_toArray, List.set_cons_succ, List.set_cons_zero]))
      | ((with_reducible apply qq_value); (intro _; go_simp; try exact rfl); exact rfl; (try simp only [Act.put, List.setIfInBounds_toArray, List.set_cons_succ, List.set_cons_zero])))
    refine qq_nil ?_
    rintro _ ⟨u7, rfl⟩
    go_wp2_with (fail)
    go_ret
    exact ⟨rfl, KW.below _⟩)
set_option maxRecDepth 100000 in
set_option maxHeartbeats 3200000 in
theorem rmay_any (s : Bool) (n d : Nat) (hn : Hid (n < M)) (hd : Hid (d < M)) (w : World) : Calls Try.prog 12 #[rv s n d] w (Ret (.bool (mayB s n d)) w) := by
  have HS := fun w => rsmall_any s n d hn hd w
  have HL := Lib.hid (fun w => rlow_any s n d hn hd w)
  unfold mayB
  generalize smallB n d = p at *
  generalize termsB s n d = q at *
  replace HS := Lib.hid HS
  cases p
  all_goals (
    refine enter fun u => ?_
    go_enter Try.func12, Try.ntmps12
    go_wp2_with (first
      | ((with_reducible apply list_box); exact rfl; intro _ _)
      | ((with_reducible apply ls_load); exact rfl; infer_instance; infer_instance)
      | ((with_reducible apply lsg_load); rfl; exact rfl; infer_instance; infer_instance)
      | (go_at_call 34; (with_reducible refine (HS.out _).mono ?_); rintro e w' ⟨rfl, hb'⟩; obtain ⟨_, rfl⟩ := KW.go _ hb'; clear hb')
      | (go_at_call 35; (with_reducible refine (HL.out _).mono ?_); rintro e w' ⟨rfl, hb'⟩; obtain ⟨_, rfl⟩ := KW.go _ hb'; clear hb'))
    go_ret
    exact ⟨rfl, KW.below _⟩)
set_option maxRecDepth 100000 in
set_option maxHeartbeats 3200000 in
theorem rlowest_any (r : Bool) (a b : Nat) (ha : Hid (a < M)) (hb : Hid (b < M)) (hp : 0 < b) (w : World) : Calls Try.prog 28 #[.bool r, wv a, wv b] w (Ret (lowV r a b) w) := by
  have hg := Nat.gcd_pos_of_pos_right a hp
  have hgl := gcd_lt ha.out hb.out
  have HG := Lib.hid (fun w => gcd_any a b ha hb w)
  have HA := fun w => over_some a (Nat.gcd a b) ha (Lib.hid hgl) hg w
  have HB := fun w => over_some b (Nat.gcd a b) hb (Lib.hid hgl) hg w
  have HF := fun w => fix_any r (a / Nat.gcd a b) (Lib.hid (Nat.lt_of_le_of_lt (Nat.div_le_self _ _) ha.out)) w
  unfold OverV at HA HB
  unfold nv at HF
  unfold lowV
  generalize ng (sg r (a / Nat.gcd a b)) = p at *
  generalize (sg r (a / Nat.gcd a b)).natAbs = m at *
  generalize a / Nat.gcd a b = x at *
  generalize b / Nat.gcd a b = y at *
  generalize a % Nat.gcd a b = x' at *
  generalize b % Nat.gcd a b = y' at *
  generalize Nat.gcd a b = g at *
  replace HA := Lib.hid HA
  replace HB := Lib.hid HB
  replace HF := Lib.hid HF
  clear hg hgl hp
  refine enter fun u => ?_
  go_enter Try.func28, Try.ntmps28
  go_wp2_with (first
    | ((with_reducible apply list_box); exact rfl; intro _ _)
    | ((with_reducible apply ls_alloc); infer_instance; intro _ _)
    | ((with_reducible apply ls_load); exact rfl; infer_instance; infer_instance)
    | ((with_reducible apply ls_store); exact rfl; exact rfl; infer_instance; infer_instance; infer_instance; intro _)
    | (go_at_call 54; (with_reducible refine (HG.out _).mono ?_); rintro e w' ⟨rfl, hb'⟩; obtain ⟨_, rfl⟩ := KW.go _ hb'; clear hb')
    | (go_at_call 55; (with_reducible refine (HA.out _).mono ?_); rintro e w' ⟨rfl, hb'⟩; obtain ⟨_, rfl⟩ := KW.go _ hb'; clear hb')
    | (go_at_call 55; (with_reducible refine (HB.out _).mono ?_); rintro e w' ⟨rfl, hb'⟩; obtain ⟨_, rfl⟩ := KW.go _ hb'; clear hb'))
  refine region_mixS [.take 0, .take 1, .take 2, .take 3, .take 4, .take 5, .sole 6] _ (Sub.both (h := Sub.skip (h := Sub.both (h := Sub.both (h := Sub.nil))))) (by kernel_rfl) (by kernel_rfl) ?_
  simp only [picksM, Mv.pick, List.filterMap_cons, List.filterMap_nil, List.getElem?_cons_zero, List.getElem?_cons_succ, Option.map_some]
  refine MM.out ?_
  repeat (first
    | ((with_reducible apply mm_load); exact rfl; infer_instance; infer_instance; (try simp only [Act.put, List.setIfInBounds_toArray, List.set_cons_succ, List.set_cons_zero]))
    | ((with_reducible apply mm_cell); exact rfl; infer_instance; infer_instance; (try simp only [Act.put, List.setIfInBounds_toArray, List.set_cons_succ, List.set_cons_zero]))
    | ((with_reducible apply mm_I); exact rfl; exact rfl; (try simp only [Act.put, List.setIfInBounds_toArray, List.set_cons_succ, List.set_cons_zero]))
    | ((with_reducible apply mm_Ratio); exact rfl; exact rfl; (try simp only [Act.put, List.setIfInBounds_toArray, List.set_cons_succ, List.set_cons_zero]))
    | ((with_reducible apply mm_callf (f := 56)); (intro _; go_simp; try exact rfl); (with_reducible exact fun _ u => HF.out _); (try simp only [Act.put, List.setIfInBounds_toArray, List.set_cons_succ, List.set_cons_zero]))
    | ((with_reducible apply mo_callf (f := 56)); infer_instance; (intro _; go_simp; try exact rfl); (with_reducible exact fun u => HF.out _); (try simp only [Act.put, List.setIfInBounds_toArray, List.set_cons_succ, List.set_cons_zero]))
    | ((with_reducible apply mm_value); (intro _; go_simp; try exact rfl); (try simp only [Act.put, List.setIfInBounds_toArray, List.set_cons_succ, List.set_cons_zero]))
    | ((with_reducible apply mo_store); exact rfl; exact rfl; infer_instance; infer_instance; infer_instance; infer_instance; (try simp only [Act.put, List.setIfInBounds_toArray, List.set_cons_succ, List.set_cons_zero]))
    | ((with_reducible apply mo_put); exact rfl; exact rfl; infer_instance; infer_instance; infer_instance; infer_instance; (try simp only [Act.put, List.setIfInBounds_toArray, List.set_cons_succ, List.set_cons_zero]))
    | ((with_reducible apply mo_alloc); infer_instance; infer_instance; intro _; (try simp only [Act.put, List.setIfInBounds_toArray, List.set_cons_succ, List.set_cons_zero]))
    | ((with_reducible apply mo_two); infer_instance; infer_instance; (decide); intro _ _; (try simp only [Act.put, List.setIfInBounds_toArray, List.set_cons_succ, List.set_cons_zero]))
    | ((with_reducible apply mo_load); infer_instance; exact rfl; infer_instance; infer_instance; (try simp only [Act.put, List.setIfInBounds_toArray, List.set_cons_succ, List.set_cons_zero]))
    | ((with_reducible apply mo_cell); infer_instance; exact rfl; infer_instance; infer_instance; (try simp only [Act.put, List.setIfInBounds_toArray, List.set_cons_succ, List.set_cons_zero]))
    | ((with_reducible apply mo_value); infer_instance; (intro _; go_simp; try exact rfl); (try simp only [Act.put, List.setIfInBounds_toArray, List.set_cons_succ, List.set_cons_zero])))
  refine mm_nil fun u7 => ?_
  go_wp2_with (fail)
  exact bd_cell Try.results28 rfl inferInstance inferInstance ⟨rfl, KW.below _⟩
set_option maxRecDepth 100000 in
set_option maxHeartbeats 3200000 in
theorem rof_zero (s t : Bool) (a : Nat) (w : World) : Calls Try.prog 7 #[iv s a, iv t 0] w (Ret (.tuple #[rv false 0 0, .int .i64 1]) w) := by
  have HZ := fun w => zero_any 0 M_pos w
  rw [show eqB 0 0 = true from eqB_same 0] at HZ
  replace HZ := Lib.hid HZ
  refine enter fun u => ?_
  go_enter Try.func7, Try.ntmps7
  go_wp2_with (first
    | ((with_reducible apply list_box); exact rfl; intro _ _)
    | ((with_reducible apply ls_alloc); infer_instance; intro _ _)
    | ((with_reducible apply ls_load); exact rfl; infer_instance; infer_instance)
    | ((with_reducible apply ls_store); exact rfl; exact rfl; infer_instance; infer_instance; infer_instance; intro _)
    | ((with_reducible apply ls_Ratio_))
    | (go_at_call 27; (with_reducible refine (HZ.out _).mono ?_); rintro e w' ⟨rfl, hb'⟩; obtain ⟨_, rfl⟩ := KW.go _ hb'; clear hb'))
  exact bd_cell_tmp Try.results7 rfl rfl inferInstance inferInstance ⟨rfl, KW.below _⟩
set_option maxRecDepth 100000 in
set_option maxHeartbeats 3200000 in
theorem rof_some (s t : Bool) (a b : Nat) (ha : Hid (a < M)) (hb : Hid (b < M)) (hp : 0 < b) (w : World) : Calls Try.prog 7 #[iv s a, iv t b] w (Ret (.tuple #[lowV (s != t) a b, .int .i64 0]) w) := by
  have HZ := fun w => zero_any b hb.out w
  rw [show eqB b 0 = false from decide_eq_false (by omega)] at HZ
  replace HZ := Lib.hid HZ
  obtain ⟨r, hr⟩ : ∃ r, r = (s != t) := ⟨_, rfl⟩
  rw [← hr]
  have HL := fun w => rlowest_any r a b ha hb hp w
  unfold lowV at *
  generalize ng (sg r (a / Nat.gcd a b)) = p at *
  generalize (sg r (a / Nat.gcd a b)).natAbs = m at *
  generalize b / Nat.gcd a b = y at *
  replace HL := Lib.hid HL
  clear hp
  cases s <;> cases t
  all_goals (
    first | (obtain rfl : r = true := hr) | (obtain rfl : r = false := hr)
    refine enter fun u => ?_
    go_enter Try.func7, Try.ntmps7
    go_wp2_with (first
      | ((with_reducible apply list_box); exact rfl; intro _ _)
      | ((with_reducible apply ls_alloc); infer_instance; intro _ _)
      | ((with_reducible apply ls_load); exact rfl; infer_instance; infer_instance)
      | ((with_reducible apply ls_store); exact rfl; exact rfl; infer_instance; infer_instance; infer_instance; intro _)
      | (go_at_call 27; (with_reducible refine (HZ.out _).mono ?_); rintro e w' ⟨rfl, hb'⟩; obtain ⟨_, rfl⟩ := KW.go _ hb'; clear hb')
      | (go_at_call 28; (with_reducible refine (HL.out _).mono ?_); rintro e w' ⟨rfl, hb'⟩; obtain ⟨_, rfl⟩ := KW.go _ hb'; clear hb'))
    exact bd_cell_tmp Try.results7 rfl rfl inferInstance inferInstance ⟨rfl, KW.below _⟩)
set_option maxRecDepth 100000 in
set_option maxHeartbeats 3200000 in
theorem rwhole_any (z : Int) (h1 : -9223372036854775808 ≤ z) (h2 : z ≤ 9223372036854775807) (w : World) : Calls Try.prog 8 #[.int .i64 z] w (Ret (rv (ng z) z.natAbs 1) w) := by
  have HS := Lib.hid (fun w => sof_any z h1 h2 w)
  have HO : Hid (∀ w, Calls Try.prog 30 #[.int .u64 1] w (Ret (wv 1) w)) := Lib.hid (fun w => of_any 1 (Lib.hid (by omega)) w)
  unfold nv at HS
  generalize ng z = p at *
  generalize z.natAbs = m at *
  refine enter fun u => ?_
  go_enter Try.func8, Try.ntmps8
  go_wp2_with (first
    | ((with_reducible apply ls_alloc); infer_instance; intro _ _)
    | ((with_reducible apply ls_store); exact rfl; exact rfl; infer_instance; infer_instance; infer_instance; intro _)
    | ((with_reducible apply ls_Ratio); exact rfl; exact rfl)
    | (go_at_call 29; (with_reducible refine (HS.out _).mono ?_); rintro e w' ⟨rfl, hb'⟩; obtain ⟨_, rfl⟩ := KW.go _ hb'; clear hb')
    | (go_at_call 30; (with_reducible refine (HO.out _).mono ?_); rintro e w' ⟨rfl, hb'⟩; obtain ⟨_, rfl⟩ := KW.go _ hb'; clear hb'))
  exact bd_cell Try.results8 rfl inferInstance inferInstance ⟨rfl, KW.below _⟩
end Go.Proofs.Ytpcbnciihohdjaa.RatW
