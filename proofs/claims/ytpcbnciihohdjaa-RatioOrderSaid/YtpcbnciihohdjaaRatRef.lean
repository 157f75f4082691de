/-
  The document's own fractions (snicketref06): contracts over the translation.
-/
import Derived.Test.YtpcbnciihohdjaaRatFn2
namespace Go.Proofs.Ytpcbnciihohdjaa.RatW
open Go.RowKit
open DigM WideM WideV KM DigW WideW QuotW QuotM DecM FmtW SignM SignW
set_option maxRecDepth 100000 in
set_option maxHeartbeats 3200000 in
theorem reflow_any (r : Bool) (a b : Nat) (ha : Hid (a < M)) (hb : Hid (b < M)) (hp : 0 < b) (w : World) : Calls Try.prog 11 #[iv r a, wv b] w (Ret (lowV r a b) w) := by
  have hg := Nat.gcd_pos_of_pos_right a hp
  have hgl := gcd_lt ha.out hb.out
  have HG := Lib.hid (fun w => refGcd_any a b ha hb w)
  have HA := fun w => refOver_any a (Nat.gcd a b) ha (Lib.hid hgl) (Lib.hid hg) w
  have HB := fun w => refOver_any b (Nat.gcd a b) hb (Lib.hid hgl) (Lib.hid hg) w
  have HF := fun w => rfix_any r (a / Nat.gcd a b) (Lib.hid (Nat.lt_of_le_of_lt (Nat.div_le_self _ _) ha.out)) w
  unfold nv at HF
  unfold lowV
  generalize ng (sg r (a / Nat.gcd a b)) = p at *
  generalize (sg r (a / Nat.gcd a b)).natAbs = m at *
  generalize a / Nat.gcd a b = x at *
  generalize b / Nat.gcd a b = y at *
  generalize a % Nat.gcd a b = x' at *
  generalize b % Nat.gcd a b = y' at *
  generalize Nat.gcd a b = g at *
  replace HA := Lib.hid HA
  replace HB := Lib.hid HB
  replace HF := Lib.hid HF
  clear hg hgl hp
  refine enter fun u => ?_
  go_enter Try.func11, Try.ntmps11
  go_wp2_with (first
    | ((with_reducible apply list_box); exact rfl; intro _ _)
    | ((with_reducible apply ls_alloc); infer_instance; intro _ _)
    | ((with_reducible apply ls_load); exact rfl; infer_instance; infer_instance)
    | ((with_reducible apply ls_store); exact rfl; exact rfl; infer_instance; infer_instance; infer_instance; intro _)
    | (go_at_call 31; (with_reducible refine (HG.out _).mono ?_); rintro e w' ⟨rfl, hb'⟩; obtain ⟨_, rfl⟩ := KW.go _ hb'; clear hb')
    | (go_at_call 32; (with_reducible refine (HA.out _).mono ?_); rintro e w' ⟨rfl, hb'⟩; obtain ⟨_, rfl⟩ := KW.go _ hb'; clear hb')
    | (go_at_call 32; (with_reducible refine (HB.out _).mono ?_); rintro e w' ⟨rfl, hb'⟩; obtain ⟨_, rfl⟩ := KW.go _ hb'; clear hb'))
  refine region_mixS [.take 0, .take 1, .take 2, .take 3, .take 4, .take 5, .take 6, .sole 7] _ (Sub.both (h := Sub.both (h := Sub.both (h := Sub.both (h := Sub.both (h := Sub.skip (h := Sub.both (h := Sub.both (h := Sub.nil))))))))) (by kernel_rfl) (by kernel_rfl) ?_
  simp only [picksM, Mv.pick, List.filterMap_cons, List.filterMap_nil, List.getElem?_cons_zero, List.getElem?_cons_succ, Option.map_some]
  refine MM.out ?_
  repeat (first
    | ((with_reducible apply mm_load); exact rfl; infer_instance; infer_instance; (try simp only [Act.put, List.setIfInBounds_toArray, List.set_cons_succ, List.set_cons_zero]))
    | ((with_reducible apply mm_cell); exact rfl; infer_instance; infer_instance; (try simp only [Act.put, List.setIfInBounds_toArray, List.set_cons_succ, List.set_cons_zero]))
    | ((with_reducible apply mm_I); exact rfl; exact rfl; (try simp only [Act.put, List.setIfInBounds_toArray, List.set_cons_succ, List.set_cons_zero]))
    | ((with_reducible apply mm_Ratio); exact rfl; exact rfl; (try simp only [Act.put, List.setIfInBounds_toArray, List.set_cons_succ, List.set_cons_zero]))
    | ((with_reducible apply mm_callf (f := 33)); (intro _; go_simp; try exact rfl); (with_reducible exact fun _ u => HF.out _); (try simp only [Act.put, List.setIfInBounds_toArray, List.set_cons_succ, List.set_cons_zero]))
    | ((with_reducible apply mo_callf (f := 33)); infer_instance; (intro _; go_simp; try exact rfl); (with_reducible exact fun u => HF.out _); (try simp only [Act.put, List.setIfInBounds_toArray, List.set_cons_succ, List.set_cons_zero]))
    | ((with_reducible apply mm_value); (intro _; go_simp; try exact rfl); (try simp only [Act.put, List.setIfInBounds_toArray, List.set_cons_succ, List.set_cons_zero]))
    | ((with_reducible apply mo_store); exact rfl; exact rfl; infer_instance; infer_instance; infer_instance; infer_instance; (try simp only [Act.put, List.setIfInBounds_toArray, List.set_cons_succ, List.set_cons_zero]))
    | ((with_reducible apply mo_put); exact rfl; exact rfl; infer_instance; infer_instance; infer_instance; infer_instance; (try simp only [Act.put, List.setIfInBounds_toArray, List.set_cons_succ, List.set_cons_zero]))
    | ((with_reducible apply mo_alloc); infer_instance; infer_instance; intro _; (try simp only [Act.put, List.setIfInBounds_toArray, List.set_cons_succ, List.set_cons_zero]))
    | ((with_reducible apply mo_two); infer_instance; infer_instance; (decide); intro _ _; (try simp only [Act.put, List.setIfInBounds_toArray, List.set_cons_succ, List.set_cons_zero]))
    | ((with_reducible apply mo_load); infer_instance; exact rfl; infer_instance; infer_instance; (try simp only [Act.put, List.setIfInBounds_toArray, List.set_cons_succ, List.set_cons_zero]))
    | ((with_reducible apply mo_cell); infer_instance; exact rfl; infer_instance; infer_instance; (try simp only [Act.put, List.setIfInBounds_toArray, List.set_cons_succ, List.set_cons_zero]))
    | ((with_reducible apply mo_value); infer_instance; (intro _; go_simp; try exact rfl); (try simp only [Act.put, List.setIfInBounds_toArray, List.set_cons_succ, List.set_cons_zero])))
  refine mm_nil fun u7 => ?_
  go_wp2_with (fail)
  exact bd_cell Try.results11 rfl inferInstance inferInstance ⟨rfl, KW.below _⟩
theorem terms_low {s : Bool} {n d : Nat} (hd : 0 < d) : (ng (sg s (n / Nat.gcd n d)) == s && eqB (sg s (n / Nat.gcd n d)).natAbs n && eqB (d / Nat.gcd n d) d) = termsB s n d := by
  rw [sg_abs, ng_sg]
  unfold termsB eqB
  rw [Bool.eq_iff_iff]
  simp only [Bool.and_eq_true, beq_iff_eq, decide_eq_true_eq]
  constructor
  · rintro ⟨⟨h1, h2⟩, h3⟩
    have hg : Nat.gcd n d = 1 := by
      have := Nat.div_mul_cancel (Nat.gcd_dvd_right n d)
      rw [h3] at this
      exact Nat.eq_of_mul_eq_mul_left hd (by rw [this, Nat.mul_one])
    rw [h2] at h1
    exact ⟨by omega, h1, hg⟩
  · rintro ⟨_, h1, h2⟩
    rw [h2, Nat.div_one, Nat.div_one]
    exact ⟨⟨h1, rfl⟩, rfl⟩
set_option maxRecDepth 100000 in
set_option maxHeartbeats 3200000 in
theorem refterms_any (s : Bool) (n d : Nat) (hn : Hid (n < M)) (hd : Hid (d < M)) (w : World) : Calls Try.prog 18 #[rv s n d] w (Ret (.bool (termsB s n d)) w) := by
  have hz := fun w => eqlW d 0 hd.out M_pos w
  by_cases h0 : d = 0
  · subst h0
    rw [show termsB s n 0 = false from decide_eq_false (fun h => h.1 rfl)]
    rw [show eqB 0 0 = true from eqB_same 0] at hz
    refine enter fun u => ?_
    go_enter Try.func18, Try.ntmps18
    go_wp2_with (first
      | ((with_reducible apply list_box); exact rfl; intro _ _))
    refine region (by kernel_rfl) (by kernel_rfl) fun _ => ?_
    refine QQ.out ?_
    repeat (first
      | ((with_reducible apply qq_skip); (exact rfl); (try simp only [Act.put, List.setIfInBounds_toArray, List.set_cons_succ, List.set_cons_zero]))
      | ((with_reducible apply qq_load); exact rfl; infer_instance; infer_instance; exact rfl; (try simp only [Act.put, List.setIfInBounds_toArray, List.set_cons_succ, List.set_cons_zero]))
      | ((with_reducible apply qq_cell); exact rfl; infer_instance; infer_instance; exact rfl; (try simp only [Act.put, List.setIfInBounds_toArray, List.set_cons_succ, List.set_cons_zero]))
      | ((with_reducible apply qq_W_); exact rfl; (try simp only [Act.put, List.setIfInBounds_toArray, List.set_cons_succ, List.set_cons_zero]))
      | ((with_reducible apply qq_value); (intro _; go_simp; try exact rfl); exact rfl; (try simp only [Act.put, List.setIfInBounds_toArray, List.set_cons_succ, List.set_cons_zero])))
    refine qq_nil ?_
    rintro _ ⟨u7, rfl⟩
    go_wp2_with (fail)
    go_ret
    exact ⟨rfl, KW.below _⟩
  · rw [show eqB d 0 = false from decide_eq_false h0] at hz
    have HL := fun w => reflow_any s n d hn hd (by omega) w
    have hq := fun w => eqlRatio (ng (sg s (n / Nat.gcd n d))) (sg s (n / Nat.gcd n d)).natAbs (d / Nat.gcd n d) s n d (by rw [sg_abs]; exact Nat.lt_of_le_of_lt (Nat.div_le_self _ _) hn.out) (Nat.lt_of_le_of_lt (Nat.div_le_self _ _) hd.out) hn.out hd.out w
    rw [terms_low (by omega)] at hq
    unfold lowV at HL
    generalize ng (sg s (n / Nat.gcd n d)) = p at *
    generalize (sg s (n / Nat.gcd n d)).natAbs = m at *
    generalize d / Nat.gcd n d = y at *
    generalize termsB s n d = b at *
    replace HL := Lib.hid HL
    clear h0
    refine enter fun u => ?_
    go_enter Try.func18, Try.ntmps18
    go_wp2_with (first
      | ((with_reducible apply list_box); exact rfl; intro _ _))
    refine region (by kernel_rfl) (by kernel_rfl) fun _ => ?_
    refine QQ.out ?_
    repeat (first
      | ((with_reducible apply qq_skip); (exact rfl); (try simp only [Act.put, List.setIfInBounds_toArray, List.set_cons_succ, List.set_cons_zero]))
      | ((with_reducible apply qq_load); exact rfl; infer_instance; infer_instance; exact rfl; (try simp only [Act.put, List.setIfInBounds_toArray, List.set_cons_succ, List.set_cons_zero]))
      | ((with_reducible apply qq_cell); exact rfl; infer_instance; infer_instance; exact rfl; (try simp only [Act.put, List.setIfInBounds_toArray, List.set_cons_succ, List.set_cons_zero]))
      | ((with_reducible apply qq_W_); exact rfl; (try simp only [Act.put, List.setIfInBounds_toArray, List.set_cons_succ, List.set_cons_zero]))
      | ((with_reducible apply qq_callf (f := 11)); (intro _; go_simp; try exact rfl); (with_reducible exact fun u => HL.out _); exact rfl; (try simp only [Act.put, List.setIfInBounds_toArray, List.set_cons_succ, List.set_cons_zero]))
      | ((with_reducible apply qq_value); (intro _; go_simp; try exact rfl); exact rfl; (try simp only [Act.put, List.setIfInBounds_toArray, List.set_cons_succ, List.set_cons_zero])))
    refine qq_nil ?_
    rintro _ ⟨u7, rfl⟩
    go_wp2_with (fail)
    go_ret
    exact ⟨rfl, KW.below _⟩
theorem dlen {B₀ : Nat} {v : Value} {ds : List Nat} {a : Nat} {w : World} (hO : Own B₀ w v ds) (hD : Hid (Digits32 a ds)) : Calls Try.prog 36 #[v] w (Ret (.int .i64 (bl a : Nat)) w) :=
  (len_any v ds w hO.rd hD.out.1 (by rw [hD.out.2.2]; omega)).mono fun e w'' ⟨k, he, hk, _, m, hw⟩ => by
    rw [hD.out.2.1] at hk
    exact ⟨by rw [he, bl_of hk], by rw [hw]; exact below_drewN (Below.refl _ _) m⟩
set_option maxRecDepth 100000 in
set_option maxHeartbeats 3200000 in
theorem refmay_any (s : Bool) (n d : Nat) (hn : Hid (n < M)) (hd : Hid (d < M)) (w : World) : Calls Try.prog 13 #[rv s n d] w (Ret (.bool (mayB s n d)) w) := by
  have HN := Lib.hid (fun w => digits32_any n hn w)
  have HD := Lib.hid (fun w => digits32_any d hd w)
  have HT := Lib.hid (fun w => refterms_any s n d hn hd w)
  have LN : Hid (∀ (B₀ : Nat) (v : Value) (ds : List Nat) (w : World), Own B₀ w v ds → Hid (Digits32 n ds) → Calls Try.prog 36 #[v] w (Ret (.int .i64 (bl n : Nat)) w)) := Lib.hid fun B₀ v ds w h1 h2 => dlen h1 h2
  have LD : Hid (∀ (B₀ : Nat) (v : Value) (ds : List Nat) (w : World), Own B₀ w v ds → Hid (Digits32 d ds) → Calls Try.prog 36 #[v] w (Ret (.int .i64 (bl d : Nat)) w)) := Lib.hid fun B₀ v ds w h1 h2 => dlen h1 h2
  unfold mayB smallB
  generalize bl n = x at *
  generalize bl d = y at *
  generalize termsB s n d = b at *
  rw [Bool.decide_and]
  obtain ⟨p, hp⟩ : ∃ p, decide ((x : Int) ≤ 120) = p := ⟨_, rfl⟩
  obtain ⟨q, hq⟩ : ∃ q, decide ((y : Int) ≤ 120) = q := ⟨_, rfl⟩
  rw [show decide (x ≤ 120) = p by rw [← hp]; exact decide_eq_decide.2 (by omega), show decide (y ≤ 120) = q by rw [← hq]; exact decide_eq_decide.2 (by omega)]
  generalize (x : Int) = X at *
  generalize (y : Int) = Y at *
  cases p <;> cases q
  all_goals (
    refine enter fun u => ?_
    go_enter Try.func13, Try.ntmps13
    go_wp2_with (first
      | ((with_reducible apply list_box); exact rfl; intro _ _)
      | ((with_reducible apply ls_load); exact rfl; infer_instance; infer_instance)
      | ((with_reducible apply lsg_load); rfl; exact rfl; infer_instance; infer_instance)
      | (go_at_call 37; (with_reducible refine (HN.out _).mono ?_); rintro e w' ⟨v1, ds1, rfl, hD1, hO1, hb'⟩; obtain ⟨_, rfl⟩ := KW.go _ hb'; replace hD1 := Lib.hid hD1; clear hb')
      | (go_at_call 37; (with_reducible refine (HD.out _).mono ?_); rintro e w' ⟨v2, ds2, rfl, hD2, hO2, hb'⟩; obtain ⟨_, rfl⟩ := KW.go _ hb'; replace hD2 := Lib.hid hD2; clear hb')
      | (go_at_call 36; (with_reducible refine (LN.out _ v1 ds1 _ hO1 hD1).mono ?_); rintro e w' ⟨rfl, hb'⟩; obtain ⟨_, rfl⟩ := KW.go _ hb'; clear hb')
      | (go_at_call 36; (with_reducible refine (LD.out _ v2 ds2 _ hO2 hD2).mono ?_); rintro e w' ⟨rfl, hb'⟩; obtain ⟨_, rfl⟩ := KW.go _ hb'; clear hb')
      | (go_at_call 18; (with_reducible refine (HT.out _).mono ?_); rintro e w' ⟨rfl, hb'⟩; obtain ⟨_, rfl⟩ := KW.go _ hb'; clear hb'))
    go_ret
    exact ⟨rfl, KW.below _⟩)
set_option maxRecDepth 100000 in
set_option maxHeartbeats 3200000 in
theorem cross_any (s : Bool) (a d : Nat) (t : Bool) (b e : Nat) (ha : Hid (a < M)) (he : Hid (e < M)) (hf : a * e < M) (w : World) : Calls Try.prog 24 #[rv s a d, rv t b e] w (Ret (nv (sg s a * e)) w) := by
  have HM := fun w => rmul_any s false a e ha he w
  rw [sg_f, fv_fit (by rw [Int.natAbs_mul, sg_abs, Int.natAbs_natCast]; exact hf)] at HM
  unfold nv at *
  generalize ng (sg s a * e) = p at *
  generalize (sg s a * e).natAbs = m at *
  replace HM := Lib.hid HM
  clear hf
  refine enter fun u => ?_
  go_enter Try.func24, Try.ntmps24
  go_wp2_with (first
    | ((with_reducible apply list_box); exact rfl; intro _ _)
    | ((with_reducible apply ls_alloc); infer_instance; intro _ _)
    | ((with_reducible apply ls_load); exact rfl; infer_instance; infer_instance)
    | ((with_reducible apply ls_store); exact rfl; exact rfl; infer_instance; infer_instance; infer_instance; intro _)
    | ((with_reducible apply ls_I1); exact rfl)
    | (go_at_call 20; (with_reducible refine (HM.out _).mono ?_); rintro e w' ⟨rfl, hb'⟩; obtain ⟨_, rfl⟩ := KW.go _ hb'; clear hb'))
  exact bd_cell Try.results24 rfl inferInstance inferInstance ⟨rfl, KW.below _⟩
section
variable (s t : Bool) (a b d e : Nat) (ha : Hid (a < M)) (hb : Hid (b < M)) (hd : Hid (d < M)) (he : Hid (e < M))
include ha hb hd he
omit ha hb in
theorem den_fit (h : d * e < M) (w : World) : Calls Try.prog 20 #[iv false d, iv false e] w (Ret (.tuple #[iv false (d * e), .bool true]) w) := by
  have := rmul_any false false d e hd he w
  rw [sg_f, sg_f, ← Int.natCast_mul, fv_fit (by rw [Int.natAbs_natCast]; exact h)] at this
  unfold nv at this
  rwa [show ng ((d * e : Nat) : Int) = false from decide_eq_false (by omega), Int.natAbs_natCast] at this
set_option maxRecDepth 100000 in
set_option maxHeartbeats 3200000 in
theorem refadd_yes (h1 : mayB s a d = true) (h2 : mayB t b e = true) (w : World) : Calls Try.prog 22 #[rv s a d, rv t b e] w (Ret (lowV (ng (sg s a * e + sg t b * d)) (sg s a * e + sg t b * d).natAbs (d * e)) w) := by
  obtain ⟨ha', hd', hd0, _⟩ := may_parts h1
  obtain ⟨hb', he', he0, _⟩ := may_parts h2
  have hT := T_M
  have hx : a * e < M := by have := T_mul ha' he'; omega
  have hy : b * d < M := by have := T_mul hb' hd'; omega
  have hde : d * e < M := by have := T_mul hd' he'; omega
  have hx' : (sg s a * e).natAbs < M := by rw [Int.natAbs_mul, sg_abs, Int.natAbs_natCast]; exact hx
  have hy' : (sg t b * d).natAbs < M := by rw [Int.natAbs_mul, sg_abs, Int.natAbs_natCast]; exact hy
  have hs : (sg s a * e + sg t b * d).natAbs < M := by
    have l1 := T_mul ha' he'
    have l2 := T_mul hb' hd'
    have := Int.natAbs_add_le (sg s a * e) (sg t b * d)
    rw [Int.natAbs_mul, Int.natAbs_mul, sg_abs, sg_abs, Int.natAbs_natCast, Int.natAbs_natCast] at this
    omega
  have HX := fun w => cross_any s a d t b e ha he hx w
  have HY := fun w => cross_any t b e s a d hb hd hy w
  have HS := fun w => radd_nv (x := sg s a * e) (y := sg t b * d) (Lib.hid hx') (Lib.hid hy') w
  rw [fv_fit hs] at HS
  have HD := fun w => den_fit d e hd he hde w
  have HL := fun w => reflow_any (ng (sg s a * e + sg t b * d)) (sg s a * e + sg t b * d).natAbs (d * e) (Lib.hid hs) (Lib.hid hde) (Nat.pos_of_ne_zero (Nat.mul_ne_zero hd0 he0)) w
  obtain ⟨p, m, y, hV⟩ : ∃ p m y, lowV (ng (sg s a * e + sg t b * d)) (sg s a * e + sg t b * d).natAbs (d * e) = rv p m y := ⟨_, _, _, rfl⟩
  rw [hV] at HL ⊢
  clear hV
  unfold nv at *
  generalize sg s a * e + sg t b * d = S at *
  generalize sg s a * e = X at *
  generalize sg t b * d = Y at *
  generalize ng S = p1 at *
  generalize S.natAbs = m1 at *
  generalize ng X = p2 at *
  generalize X.natAbs = m2 at *
  generalize ng Y = p3 at *
  generalize Y.natAbs = m3 at *
  generalize d * e = D at *
  replace HX := Lib.hid HX
  replace HY := Lib.hid HY
  replace HS := Lib.hid HS
  replace HD := Lib.hid HD
  replace HL := Lib.hid HL
  clear h1 h2 ha' hd' hb' he' hT hx hy hde hx' hy' hs hd0 he0
  refine enter fun u => ?_
  go_enter Try.func22, Try.ntmps22
  go_wp2_with (first
    | ((with_reducible apply list_box); exact rfl; intro _ _)
    | ((with_reducible apply ls_alloc); infer_instance; intro _ _))
  refine region_mixS [.take 0, .take 1, .take 2, .take 3, .take 4, .take 5, .take 6, .take 7, .take 8, .take 9, .sole 10, .sole 11, .take 12] _ (Sub.both (h := Sub.both (h := Sub.both (h := Sub.nil)))) (by kernel_rfl) (by kernel_rfl) ?_
  simp only [picksM, Mv.pick, List.filterMap_cons, List.filterMap_nil, List.getElem?_cons_zero, List.getElem?_cons_succ, Option.map_some]
  refine MM.out ?_
  repeat (first
    | ((with_reducible apply mm_load); exact rfl; infer_instance; infer_instance; (try simp only [Act.put, List.setIfInBounds_toArray, List.set_cons_succ, List.set_cons_zero]))
    | ((with_reducible apply mm_cell); exact rfl; infer_instance; infer_instance; (try simp only [Act.put, List.setIfInBounds_toArray, List.set_cons_succ, List.set_cons_zero]))
    | ((with_reducible apply mm_callf (f := 24)); (intro _; go_simp; try exact rfl); (with_reducible exact fun _ u => HX.out _); (try simp only [Act.put, List.setIfInBounds_toArray, List.set_cons_succ, List.set_cons_zero]))
    | ((with_reducible apply mo_callf (f := 24)); infer_instance; (intro _; go_simp; try exact rfl); (with_reducible exact fun u => HX.out _); (try simp only [Act.put, List.setIfInBounds_toArray, List.set_cons_succ, List.set_cons_zero]))
    | ((with_reducible apply mm_callf (f := 24)); (intro _; go_simp; try exact rfl); (with_reducible exact fun _ u => HY.out _); (try simp only [Act.put, List.setIfInBounds_toArray, List.set_cons_succ, List.set_cons_zero]))
    | ((with_reducible apply mo_callf (f := 24)); infer_instance; (intro _; go_simp; try exact rfl); (with_reducible exact fun u => HY.out _); (try simp only [Act.put, List.setIfInBounds_toArray, List.set_cons_succ, List.set_cons_zero]))
    | ((with_reducible apply mm_callf (f := 19)); (intro _; go_simp; try exact rfl); (with_reducible exact fun _ u => HS.out _); (try simp only [Act.put, List.setIfInBounds_toArray, List.set_cons_succ, List.set_cons_zero]))
    | ((with_reducible apply mo_callf (f := 19)); infer_instance; (intro _; go_simp; try exact rfl); (with_reducible exact fun u => HS.out _); (try simp only [Act.put, List.setIfInBounds_toArray, List.set_cons_succ, List.set_cons_zero]))
    | ((with_reducible apply mm_value); (intro _; go_simp; try exact rfl); (try simp only [Act.put, List.setIfInBounds_toArray, List.set_cons_succ, List.set_cons_zero]))
    | ((with_reducible apply mo_store); exact rfl; exact rfl; infer_instance; infer_instance; infer_instance; infer_instance; (try simp only [Act.put, List.setIfInBounds_toArray, List.set_cons_succ, List.set_cons_zero]))
    | ((with_reducible apply mo_put); exact rfl; exact rfl; infer_instance; infer_instance; infer_instance; infer_instance; (try simp only [Act.put, List.setIfInBounds_toArray, List.set_cons_succ, List.set_cons_zero]))
    | ((with_reducible apply mo_alloc); infer_instance; infer_instance; intro _; (try simp only [Act.put, List.setIfInBounds_toArray, List.set_cons_succ, List.set_cons_zero]))
    | ((with_reducible apply mo_two); infer_instance; infer_instance; (decide); intro _ _; (try simp only [Act.put, List.setIfInBounds_toArray, List.set_cons_succ, List.set_cons_zero]))
    | ((with_reducible apply mo_load); infer_instance; exact rfl; infer_instance; infer_instance; (try simp only [Act.put, List.setIfInBounds_toArray, List.set_cons_succ, List.set_cons_zero]))
    | ((with_reducible apply mo_cell); infer_instance; exact rfl; infer_instance; infer_instance; (try simp only [Act.put, List.setIfInBounds_toArray, List.set_cons_succ, List.set_cons_zero]))
    | ((with_reducible apply mo_value); infer_instance; (intro _; go_simp; try exact rfl); (try simp only [Act.put, List.setIfInBounds_toArray, List.set_cons_succ, List.set_cons_zero])))
  refine mm_nil fun u7 => ?_
  go_wp2_with (first
    | ((with_reducible apply ls_alloc); infer_instance; intro _ _)
    | ((with_reducible apply ls_load); exact rfl; infer_instance; infer_instance)
    | ((with_reducible apply ls_store); exact rfl; exact rfl; infer_instance; infer_instance; infer_instance; intro _)
    | ((with_reducible apply ls_I1); exact rfl)
    | (go_at_call 20; (with_reducible refine (HD.out _).mono ?_); rintro e w' ⟨rfl, hb'⟩; obtain ⟨_, rfl⟩ := KW.go _ hb'; clear hb')
    | (go_at_call 11; (with_reducible refine (HL.out _).mono ?_); rintro e w' ⟨rfl, hb'⟩; obtain ⟨_, rfl⟩ := KW.go _ hb'; clear hb'))
  exact bd_cell Try.results22 rfl inferInstance inferInstance ⟨rfl, KW.below _⟩
set_option maxRecDepth 100000 in
set_option maxHeartbeats 3200000 in
theorem refmul_yes (h1 : mayB s a d = true) (h2 : mayB t b e = true) (w : World) : Calls Try.prog 23 #[rv s a d, rv t b e] w (Ret (lowV (ng (sg s a * sg t b)) (sg s a * sg t b).natAbs (d * e)) w) := by
  obtain ⟨ha', hd', hd0, _⟩ := may_parts h1
  obtain ⟨hb', he', he0, _⟩ := may_parts h2
  have hT := T_M
  have hx : a * b < M := by have := T_mul ha' hb'; omega
  have hde : d * e < M := by have := T_mul hd' he'; omega
  have hx' : (sg s a * sg t b).natAbs < M := by rw [Int.natAbs_mul, sg_abs, sg_abs]; exact hx
  have HS := fun w => rmul_any s t a b ha hb w
  rw [fv_fit hx'] at HS
  have HD := fun w => den_fit d e hd he hde w
  have HL := fun w => reflow_any (ng (sg s a * sg t b)) (sg s a * sg t b).natAbs (d * e) (Lib.hid hx') (Lib.hid hde) (Nat.pos_of_ne_zero (Nat.mul_ne_zero hd0 he0)) w
  obtain ⟨p, m, y, hV⟩ : ∃ p m y, lowV (ng (sg s a * sg t b)) (sg s a * sg t b).natAbs (d * e) = rv p m y := ⟨_, _, _, rfl⟩
  rw [hV] at HL ⊢
  clear hV
  unfold nv at *
  generalize sg s a * sg t b = S at *
  generalize ng S = p1 at *
  generalize S.natAbs = m1 at *
  generalize d * e = D at *
  replace HS := Lib.hid HS
  replace HD := Lib.hid HD
  replace HL := Lib.hid HL
  clear h1 h2 ha' hd' hb' he' hT hx hde hx' hd0 he0
  refine enter fun u => ?_
  go_enter Try.func23, Try.ntmps23
  go_wp2_with (first
    | ((with_reducible apply list_box); exact rfl; intro _ _)
    | ((with_reducible apply ls_alloc); infer_instance; intro _ _)
    | ((with_reducible apply ls_load); exact rfl; infer_instance; infer_instance)
    | ((with_reducible apply ls_store); exact rfl; exact rfl; infer_instance; infer_instance; infer_instance; intro _)
    | ((with_reducible apply ls_I1); exact rfl)
    | (go_at_call 20; (with_reducible refine (HS.out _).mono ?_); rintro e w' ⟨rfl, hb'⟩; obtain ⟨_, rfl⟩ := KW.go _ hb'; clear hb')
    | (go_at_call 20; (with_reducible refine (HD.out _).mono ?_); rintro e w' ⟨rfl, hb'⟩; obtain ⟨_, rfl⟩ := KW.go _ hb'; clear hb')
    | (go_at_call 11; (with_reducible refine (HL.out _).mono ?_); rintro e w' ⟨rfl, hb'⟩; obtain ⟨_, rfl⟩ := KW.go _ hb'; clear hb'))
  exact bd_cell Try.results23 rfl inferInstance inferInstance ⟨rfl, KW.below _⟩
end
set_option maxRecDepth 100000 in
set_option maxHeartbeats 3200000 in
theorem refpart_any (n k d : Nat) (hn : n ≤ 9223372036854775807) (hd : d ≤ 9223372036854775807) (hd0 : 0 < d) (hk : k ≤ d) (w : World) : Calls Try.prog 26 #[.int .i64 n, .int .i64 k, .int .i64 d] w (Ret (.int .i64 (n * k / d : Nat)) w) := by
  obtain ⟨x, hx⟩ : ∃ x, n * k / d = x := ⟨_, rfl⟩
  have hq : x ≤ 9223372036854775807 := by have := RatM.part_le (n := n) hk; omega
  rw [hx]
  have gN := digits_good n (by omega)
  have gK := digits_good k (by omega)
  have gD := digits_good d (by omega)
  have LN : Hid ((digits n).length = 4) := Lib.hid rfl
  have LK : Hid ((digits k).length = 4) := Lib.hid rfl
  have LD : Hid ((digits d).length = 4) := Lib.hid rfl
  have vN := Lib.hid (digits_val n)
  have vK := Lib.hid (digits_val k)
  have vD := Lib.hid (digits_val d)
  have DN := Lib.hid (fun w => digits_any n w (by omega))
  have DK := Lib.hid (fun w => digits_any k w (by omega))
  have DD := Lib.hid (fun w => digits_any d w (by omega))
  have cN : IntKind.u64.wrap (n : Int) = n := by rw [IntKind.wrap_u64]; omega
  have cK : IntKind.u64.wrap (k : Int) = k := by rw [IntKind.wrap_u64]; omega
  have cD : IntKind.u64.wrap (d : Int) = d := by rw [IntKind.wrap_u64]; omega
  have cX : Hid (IntKind.i64.wrap (x : Int) = x) := Lib.hid (by rw [IntKind.wrap_i64]; omega)
  have hX : Hid (x ≤ 9223372036854775807) := Lib.hid hq
  have hD0 : Hid (0 < d) := Lib.hid hd0
  have hXX := Lib.hid hx
  clear hx hq hn hd hd0 hk
  generalize digits n = dn at *
  generalize digits k = dk at *
  generalize digits d = dd at *
  go_enter Try.func26, Try.ntmps26
  go_wp2_with (fail)
  refine (DN.out _).mono ?_
  rintro e w1 ⟨v1', ds1, rfl, rfl, o1, b1⟩
  go_wp2_with (fail)
  refine (DK.out _).mono ?_
  rintro e w2 ⟨v2', ds2, rfl, rfl, o2, b2⟩
  go_wp2_with (fail)
  refine (times_any _ _ ds1 ds2 _ (o1.rd.later b2 (Nat.le_refl _)) o2.rd gN gK (by rw [LN.out]; decide) (by rw [LK.out]; decide)).mono ?_
  rintro e w3 ⟨v3', p1, rfl, ⟨gp, vp, lp⟩, o3, b3⟩
  have lp' : p1.length ≤ 1048576 := by rw [lp, LN.out, LK.out]; decide
  have VP : Hid (val p1 = n * k) := Lib.hid (by rw [vp, vN.out, vK.out])
  have hb3 : Below w.heap.size w w3 := (b1.trans (b2.mono b1.size)).trans (b3.mono (Nat.le_trans b1.size b2.size))
  clear lp vp b1 b2 b3 o1 o2
  go_wp2_with (fail)
  refine (DD.out _).mono ?_
  rintro e w4 ⟨v4', ds4, rfl, rfl, o4, b4⟩
  go_wp2_with (fail)
  refine (over_any _ _ p1 ds4 _ (o3.rd.later b4 (Nat.le_refl _)) o4.rd gp gD (by rw [vD.out]; exact hD0.out) lp' (by rw [LD.out]; decide)).mono ?_
  rintro e w5 ⟨v5', v6', q, r, rfl, gq, _, vq, _, lq, _, o5, _, b5⟩
  have lq' : q.length ≤ 1099511627776 := by rw [lq]; omega
  have e0 : Hid (wordAt q 0 = x) := Lib.hid (by rw [wordAt_0 q gq, vq, VP.out, vD.out, hXX.out]; have := hX.out; omega)
  have hb5 : Below w.heap.size w w5 := (hb3.trans (b4.mono hb3.size)).trans (b5.mono (Nat.le_trans hb3.size b4.size))
  clear vq lq b4 b5 hb3 o3 o4 lp'
  go_wp2_with (fail)
  refine (word_is _ q 0 x _ o5.rd gq e0 lq' (by decide)).mono ?_
  rintro e w' ⟨rfl, rfl⟩
  have cX := cX.out
  clear e0
  go_wp2_with (fail)
  go_ret
  exact ⟨rfl, hb5⟩
end Go.Proofs.Ytpcbnciihohdjaa.RatW
