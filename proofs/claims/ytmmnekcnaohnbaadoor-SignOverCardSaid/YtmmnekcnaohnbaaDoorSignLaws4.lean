/-
  The walk of the law SignOver.
-/
import Derived.Test.YtmmnekcnaohnbaaDoorSignLaws
namespace Go.Proofs.YtmmnekcnaohnbaaDoor.SignW
open Go.RowKit
open DigM WideM WideV KM DigW WideW QuotW QuotM DecM FmtW SignM
open Go.Lib (decDigits nDigits)
/-- what is left of a quotient, cut down -/
theorem over_rest (s t : Bool) (a b : Nat) (hb : 0 < b) : ∃ z : Int, sg s a - sg (s != t) (ovq (s != t) a b) * sg t b = z ∧ z.natAbs < b ∧ (z = 0 ∨ z.natAbs ≠ 0 ∧ ng z = t) := by
  refine ⟨_, rfl, ?_⟩
  rw [← sg_mul, show ((s != t) != t) = s by cases s <;> cases t <;> rfl]
  have hm := Nat.mod_lt a hb
  have hd := Nat.div_add_mod a b
  rw [Nat.mul_comm] at hd
  unfold ovq
  generalize a % b = m at *
  by_cases h : (s != t) = true ∧ ¬ m = 0
  · rw [if_pos h]
    have ht : t = !s := by have := h.1; cases s <;> cases t <;> first | rfl | simp at this
    have e : sg s a - sg s ((a / b + 1) * b) = sg (!s) (b - m) := by
      rw [Nat.succ_mul]
      generalize a / b * b = p at *
      cases s <;> simp only [sg_t, sg_f, Bool.not_true, Bool.not_false] <;> omega
    rw [e, sg_abs, ng_sg, ← ht]
    have h0 : b - m ≠ 0 := by omega
    exact ⟨by have := h.2; omega, Or.inr ⟨h0, by rw [show eqB (b - m) 0 = false from decide_eq_false h0]; cases t <;> rfl⟩⟩
  · rw [if_neg h]
    have e : sg s a - sg s (a / b * b) = sg s m := by
      generalize a / b * b = p at *
      cases s <;> simp only [sg_t, sg_f] <;> omega
    rw [e, sg_abs, ng_sg]
    refine ⟨hm, ?_⟩
    by_cases h0 : m = 0
    · subst h0; left; cases s <;> rfl
    · right
      have hs : s = t := by cases s <;> cases t <;> first | rfl | exact absurd ⟨rfl, h0⟩ h
      exact ⟨h0, by rw [show eqB m 0 = false from decide_eq_false h0, ← hs]; cases s <;> rfl⟩
theorem over_top (r : Bool) (a b : Nat) (ha : a < M) (hb : b < M) (h : ¬ ovq r a b * b < M) : ∃ x : Nat, wd a 7 = x ∧ (4611686018427387904 : Int) < (x : Int) := by
  refine ⟨_, rfl, ?_⟩
  have hd := Nat.div_add_mod a b
  rw [Nat.mul_comm] at hd
  have h2 : M ≤ 2 * a := by
    unfold ovq at h
    split at h
    · rw [Nat.succ_mul] at h
      by_cases hab : a < b
      · rw [Nat.div_eq_of_lt hab] at h; omega
      · generalize a / b * b = p at *
        generalize a % b = m at *
        omega
    · generalize a / b * b = p at *
      omega
  have h3 : 9223372036854775808 ≤ a / B ^ 7 := by
    rw [Nat.le_div_iff_mul_le (Bp_pos 7)]
    have e : M = 9223372036854775808 * B ^ 7 * 2 := by unfold M; rw [Nat.pow_succ, B_eq]
    generalize 9223372036854775808 * B ^ 7 = c at *
    omega
  have h4 : wd a 7 = a / B ^ 7 := by
    unfold wd
    refine Nat.mod_eq_of_lt ?_
    rw [Nat.div_lt_iff_lt_mul (Bp_pos 7), Nat.mul_comm, ← Nat.pow_succ]
    exact ha
  rw [h4]
  omega
theorem eqI_no {p : Bool} {m : Nat} (hm : m < M) (h : m ≠ 0) (w : World) : (Op.equalIn 10000 26 (.agg (ic p m)) (.agg (ic false 0))).run Tryd.prog w = .ok false w := by
  rw [eqlI p false m 0 hm M_pos w, show eqB m 0 = false from decide_eq_false h, Bool.and_false]
set_option maxRecDepth 100000 in
set_option maxHeartbeats 6400000 in
theorem signOver_0 (s t : Bool) (a : Nat) (w : World) (ht : Tab w) : Calls Tryd.prog 4 #[iv s a, iv t 0] w (TrueAt5 w) := by
  have HT := Lib.hid ht
  have HW := Lib.hid (fun w (ht : Tab w) => awake5_any w ht)
  have HO := Lib.hid (fun w => sover_zero s t a w)
  have HF := fun w => rfix_any t 0 (Lib.hid M_pos) w
  rw [nv_sg, show (t && !eqB 0 0) = false by rw [eqB_same]; cases t <;> rfl] at HF
  replace HF := Lib.hid HF
  clear ht
  refine enter fun u => ?_
  go_enter Tryd.func4, Tryd.ntmps4
  go_wp2_with (first
    | ((with_reducible apply list_box); exact rfl; intro _ _)
    | ((with_reducible apply ls_alloc); infer_instance; intro _ _)
    | ((with_reducible apply ls_load); exact rfl; infer_instance; infer_instance)
    | ((with_reducible apply lsg_load); rfl; exact rfl; infer_instance; infer_instance)
    | ((with_reducible apply ls_store); exact rfl; exact rfl; infer_instance; infer_instance; infer_instance; intro _)
    | (with_reducible apply ls_I0)
    | ((with_reducible apply lsg_I0); rfl)
    | (go_at_call 19; (with_reducible refine (HO.out _).mono ?_); rintro e w' ⟨rfl, hb'⟩; obtain ⟨_, rfl⟩ := KW.go _ hb'; clear hb')
    | (go_at_call 7; (with_reducible refine (HF.out _).mono ?_); rintro e w' ⟨rfl, hb'⟩; obtain ⟨_, rfl⟩ := KW.go _ hb'; clear hb')
    | (go_at_call 18; (with_reducible refine (HW.out _ (HT.out.later (KW.below _) (Nat.le_refl _))).mono ?_); rintro e w' ⟨rfl, hb'⟩; obtain ⟨_, rfl⟩ := KW.go _ hb'; clear hb'))
  go_ret
  exact ⟨rfl, KW.below _⟩
theorem eqB_no {m : Nat} (h : m ≠ 0) : eqB m 0 = false := decide_eq_false h
set_option maxRecDepth 100000 in
set_option maxHeartbeats 12800000 in
theorem signOver_1 (s t : Bool) (a b : Nat) (ha : Hid (a < M)) (hb : Hid (b < M)) (hp : 0 < b) (w : World) (ht : Tab w) : Calls Tryd.prog 4 #[iv s a, iv t b] w (TrueAt5 w) := by
  have HT := Lib.hid ht
  have HW := Lib.hid (fun w (ht : Tab w) => awake5_any w ht)
  have hb0 : b ≠ 0 := by omega
  have HO := fun w => sover_some s t a b ha hb hp w
  have HF := fun w => rfix_any t b hb w
  rw [nv_sg, eqB_no hb0, show (t && !false) = t by cases t <;> rfl] at HF
  have heq := fun w => eqI_no (p := t) hb.out hb0 w
  have hz := ovq_lt (r := s != t) (b := b) ha.out
  have HM := fun w => smul_any (ng (sg (s != t) (ovq (s != t) a b))) t (sg (s != t) (ovq (s != t) a b)).natAbs b (Lib.hid (by rw [sg_abs]; exact hz)) hb w
  rw [sg_ng] at HM
  have HS := fun w => ssub_any s (ng (lowI (sg (s != t) (ovq (s != t) a b) * sg t b))) a (lowI (sg (s != t) (ovq (s != t) a b) * sg t b)).natAbs ha (Lib.hid (lowI_lt _)) w
  rw [sg_ng] at HS
  by_cases hf : ovq (s != t) a b * b < M
  · have hf' : (sg (s != t) (ovq (s != t) a b) * sg t b).natAbs < M := by rw [← sg_mul, sg_abs]; exact hf
    obtain ⟨z, hz1, hz2, hz3⟩ := over_rest s t a b hp
    rw [low_fit hf'] at HS
    rw [fv_fit hf'] at HM
    have hzM : z.natAbs < M := Nat.lt_trans hz2 hb.out
    rw [hz1, fv_fit hzM] at HS
    have HF1 := fun w => rfix_any false z.natAbs (Lib.hid hzM) w
    have HF2 := fun w => rfix_any false b hb w
    rw [nv_sg, Bool.false_and] at HF1 HF2
    have HC := fun w => rcmp_any false false z.natAbs b (Lib.hid hzM) hb w
    rw [show cmpZ (sg false z.natAbs - sg false b) = -1 by unfold cmpZ; rw [sg_f, sg_f, if_pos (by omega)]] at HC
    unfold nv at HO HM HS
    generalize sg (s != t) (ovq (s != t) a b) * sg t b = m at *
    generalize sg (s != t) (ovq (s != t) a b) = q at *
    generalize ng m = pm at *
    generalize m.natAbs = mm at *
    generalize ng q = pq at *
    generalize q.natAbs = mq at *
    replace HO := Lib.hid HO
    replace HF := Lib.hid HF
    replace HM := Lib.hid HM
    replace HS := Lib.hid HS
    replace HF1 := Lib.hid HF1
    replace HF2 := Lib.hid HF2
    replace HC := Lib.hid HC
    rcases hz3 with rfl | ⟨hn, hng⟩
    · rw [show ng 0 = false from rfl, show Int.natAbs 0 = 0 from rfl] at HS
      rw [show Int.natAbs 0 = 0 from rfl] at HF1 HC
      clear ht hf hf' hz1 hz2 hz hp hzM hb0
      refine enter fun u => ?_
      go_enter Tryd.func4, Tryd.ntmps4
      go_wp2_with (first
        | ((with_reducible apply list_box); exact rfl; intro _ _)
        | ((with_reducible apply ls_alloc); infer_instance; intro _ _)
        | ((with_reducible apply ls_load); exact rfl; infer_instance; infer_instance)
        | ((with_reducible apply lsg_load); rfl; exact rfl; infer_instance; infer_instance)
        | ((with_reducible apply ls_store); exact rfl; exact rfl; infer_instance; infer_instance; infer_instance; intro _)
        | (with_reducible apply ls_I0)
        | ((with_reducible apply ls_I1); exact rfl)
        | (go_at_call 19; (with_reducible refine (HO.out _).mono ?_); rintro e w' ⟨rfl, hb'⟩; obtain ⟨_, rfl⟩ := KW.go _ hb'; clear hb')
        | (go_at_call 7; (with_reducible refine (HF.out _).mono ?_); rintro e w' ⟨rfl, hb'⟩; obtain ⟨_, rfl⟩ := KW.go _ hb'; clear hb')
        | (go_at_call 7; (with_reducible refine (HF1.out _).mono ?_); rintro e w' ⟨rfl, hb'⟩; obtain ⟨_, rfl⟩ := KW.go _ hb'; clear hb')
        | (go_at_call 7; (with_reducible refine (HF2.out _).mono ?_); rintro e w' ⟨rfl, hb'⟩; obtain ⟨_, rfl⟩ := KW.go _ hb'; clear hb')
        | (go_at_call 10; (with_reducible refine (HM.out _).mono ?_); rintro e w' ⟨rfl, hb'⟩; obtain ⟨_, rfl⟩ := KW.go _ hb'; clear hb')
        | (go_at_call 9; (with_reducible refine (HS.out _).mono ?_); rintro e w' ⟨rfl, hb'⟩; obtain ⟨_, rfl⟩ := KW.go _ hb'; clear hb')
        | (go_at_call 15; (with_reducible refine (HC.out _).mono ?_); rintro e w' ⟨rfl, hb'⟩; obtain ⟨_, rfl⟩ := KW.go _ hb'; clear hb')
        | (go_at_call 18; (with_reducible refine (HW.out _ (HT.out.later (KW.below _) (Nat.le_refl _))).mono ?_); rintro e w' ⟨rfl, hb'⟩; obtain ⟨_, rfl⟩ := KW.go _ hb'; clear hb'))
      go_ret
      exact ⟨rfl, KW.below _⟩
    · rw [hng] at HS
      have heq2 := fun w => eqI_no (p := t) hzM hn w
      generalize z.natAbs = mz at *
      clear ht hf hf' hz1 hz2 hz hp hng hn hzM hb0
      refine enter fun u => ?_
      go_enter Tryd.func4, Tryd.ntmps4
      go_wp2_with (first
        | ((with_reducible apply list_box); exact rfl; intro _ _)
        | ((with_reducible apply ls_alloc); infer_instance; intro _ _)
        | ((with_reducible apply ls_load); exact rfl; infer_instance; infer_instance)
        | ((with_reducible apply lsg_load); rfl; exact rfl; infer_instance; infer_instance)
        | ((with_reducible apply ls_store); exact rfl; exact rfl; infer_instance; infer_instance; infer_instance; intro _)
        | (with_reducible apply ls_I0)
        | ((with_reducible apply ls_I1); exact rfl)
        | (go_at_call 19; (with_reducible refine (HO.out _).mono ?_); rintro e w' ⟨rfl, hb'⟩; obtain ⟨_, rfl⟩ := KW.go _ hb'; clear hb')
        | (go_at_call 7; (with_reducible refine (HF.out _).mono ?_); rintro e w' ⟨rfl, hb'⟩; obtain ⟨_, rfl⟩ := KW.go _ hb'; clear hb')
        | (go_at_call 7; (with_reducible refine (HF1.out _).mono ?_); rintro e w' ⟨rfl, hb'⟩; obtain ⟨_, rfl⟩ := KW.go _ hb'; clear hb')
        | (go_at_call 7; (with_reducible refine (HF2.out _).mono ?_); rintro e w' ⟨rfl, hb'⟩; obtain ⟨_, rfl⟩ := KW.go _ hb'; clear hb')
        | (go_at_call 10; (with_reducible refine (HM.out _).mono ?_); rintro e w' ⟨rfl, hb'⟩; obtain ⟨_, rfl⟩ := KW.go _ hb'; clear hb')
        | (go_at_call 9; (with_reducible refine (HS.out _).mono ?_); rintro e w' ⟨rfl, hb'⟩; obtain ⟨_, rfl⟩ := KW.go _ hb'; clear hb')
        | (go_at_call 15; (with_reducible refine (HC.out _).mono ?_); rintro e w' ⟨rfl, hb'⟩; obtain ⟨_, rfl⟩ := KW.go _ hb'; clear hb')
        | (go_at_call 18; (with_reducible refine (HW.out _ (HT.out.later (KW.below _) (Nat.le_refl _))).mono ?_); rintro e w' ⟨rfl, hb'⟩; obtain ⟨_, rfl⟩ := KW.go _ hb'; clear hb'))
      go_ret
      exact ⟨rfl, KW.below _⟩
  · have hf' : ¬ (sg (s != t) (ovq (s != t) a b) * sg t b).natAbs < M := by rw [← sg_mul, sg_abs]; exact hf
    obtain ⟨x, hx, hgt⟩ := over_top (s != t) a b ha.out hb.out hf
    rw [low_big hf'] at HS
    rw [fv_big hf'] at HM
    rw [show ng 0 = false from rfl, show Int.natAbs 0 = 0 from rfl] at HS
    have h8 : (ic s a)[8]? = some (.int .u64 (x : Nat)) := by subst hx; rfl
    unfold fv nv at HO HS
    generalize sg (s != t) (ovq (s != t) a b) * sg t b = m at *
    generalize sg (s != t) (ovq (s != t) a b) = q at *
    generalize fitI (sg s a - 0) = o at *
    generalize lowI (sg s a - 0) = z at *
    generalize ng z = pz at *
    generalize z.natAbs = mz at *
    generalize ng q = pq at *
    generalize q.natAbs = mq at *
    replace HO := Lib.hid HO
    replace HF := Lib.hid HF
    replace HM := Lib.hid HM
    replace HS := Lib.hid HS
    have hgt2 : decide ((4611686018427387904 : Int) < (x : Int)) = true := decide_eq_true hgt
    clear ht hf hf' hx hz hp hb0 hgt
    refine enter fun u => ?_
    go_enter Tryd.func4, Tryd.ntmps4
    go_wp2_with (first
      | ((with_reducible apply list_box); exact rfl; intro _ _)
      | ((with_reducible apply ls_alloc); infer_instance; intro _ _)
      | ((with_reducible apply ls_load); exact rfl; infer_instance; infer_instance)
      | ((with_reducible apply lsg_load); rfl; exact rfl; infer_instance; infer_instance)
      | ((with_reducible apply ls_store); exact rfl; exact rfl; infer_instance; infer_instance; infer_instance; intro _)
      | (with_reducible apply ls_I0)
      | ((with_reducible apply ls_I1); exact rfl)
      | (go_at_call 19; (with_reducible refine (HO.out _).mono ?_); rintro e w' ⟨rfl, hb'⟩; obtain ⟨_, rfl⟩ := KW.go _ hb'; clear hb')
      | (go_at_call 7; (with_reducible refine (HF.out _).mono ?_); rintro e w' ⟨rfl, hb'⟩; obtain ⟨_, rfl⟩ := KW.go _ hb'; clear hb')
      | (go_at_call 10; (with_reducible refine (HM.out _).mono ?_); rintro e w' ⟨rfl, hb'⟩; obtain ⟨_, rfl⟩ := KW.go _ hb'; clear hb')
      | (go_at_call 9; (with_reducible refine (HS.out _).mono ?_); rintro e w' ⟨rfl, hb'⟩; obtain ⟨_, rfl⟩ := KW.go _ hb'; clear hb')
      | (go_at_call 18; (with_reducible refine (HW.out _ (HT.out.later (KW.below _) (Nat.le_refl _))).mono ?_); rintro e w' ⟨rfl, hb'⟩; obtain ⟨_, rfl⟩ := KW.go _ hb'; clear hb'))
    go_ret
    exact ⟨rfl, KW.below _⟩
theorem signOver_walk (s t : Bool) (a b : Nat) (ha : Hid (a < M)) (hb : Hid (b < M)) (w : World) (ht : Tab w) : Calls Tryd.prog 4 #[iv s a, iv t b] w (TrueAt5 w) := by
  by_cases h : b = 0
  · subst h; exact signOver_0 s t a w ht
  · exact signOver_1 s t a b ha hb (by omega) w ht
end Go.Proofs.YtmmnekcnaohnbaaDoor.SignW
