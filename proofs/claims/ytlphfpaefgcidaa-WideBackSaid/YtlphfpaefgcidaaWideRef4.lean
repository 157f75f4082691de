/-
  The document's own order and shift of layer 3.
-/
import Derived.Test.YtlphfpaefgcidaaWideRef3
namespace Go.Proofs.Ytlphfpaefgcidaa.WideW
open Go.RowKit
open DigM WideM WideV KM DigW
theorem less_yes (v u : Value) (x y : List Nat) (w : World) (hv : Rd w v x) (hu : Rd w u y) (hx : Digs x) (hy : Digs y) (hlx : x.length ≤ 1048576) (hly : y.length ≤ 1048576) (h : val x < val y) :
    Calls Try.prog 31 #[v, u] w (Same (.bool true) w) := by
  have := less_any v u x y w hv hu hx hy (by omega) (by omega)
  rwa [lessB, decide_eq_true h] at this
theorem less_no (v u : Value) (x y : List Nat) (w : World) (hv : Rd w v x) (hu : Rd w u y) (hx : Digs x) (hy : Digs y) (hlx : x.length ≤ 1048576) (hly : y.length ≤ 1048576) (h : val y ≤ val x) :
    Calls Try.prog 31 #[v, u] w (Same (.bool false) w) := by
  have := less_any v u x y w hv hu hx hy (by omega) (by omega)
  rwa [lessB, decide_eq_false (by omega)] at this
set_option maxHeartbeats 1600000 in
theorem refCmp_lt (a b : Nat) (ha : Hid (a < M)) (hb : Hid (b < M)) (w : World) (h : Hid (a < b)) : Calls Try.prog 16 #[wv a, wv b] w (Ret (.int .i64 (cmpI a b)) w) := by
  have HDA := Lib.hid (digits32_any a ha)
  have HDB := Lib.hid (digits32_any b hb)
  have HQ := Lib.hid (eqlW a b ha.out hb.out)
  refine enter fun u => ?_
  go_enter Try.func16, Try.ntmps16
  go_wp2_with (first | ((with_reducible apply list_box); exact rfl; intro _ _))
  rename_i g2 u2 g3 u3 _ _ _ _
  have s1 : At8 g2 (cells 8 a) u3.w := fun j => by simp
  have s2 : At8 g3 (cells 8 b) u3.w := fun j => by simp
  go_region_held3 (fun w' => At8 g2 (cells 8 a) w' ∧ At8 g3 (cells 8 b) w') (first | exact ⟨s1, s2⟩ | assumption | (refine At8.both (by simp) (by simp) ?_ (by assumption); assumption))
    (first
      | (go_at_call 7; (with_reducible refine (HDA.out _).mono ?_); rintro e w1 ⟨v1, x, rfl, hx, o1, b1⟩)
      | (go_at_call 7; (with_reducible refine (HDB.out _).mono ?_); rintro e w2 ⟨v2, y, rfl, hy, o2, b2⟩)
      | (go_at_call 31; refine (less_yes _ _ x y _ (o1.rd.later b2 (Nat.le_refl _)) o2.rd hx.1 hy.1 (by have := hx.2.2; omega) (by have := hy.2.2; omega) (by rw [hx.2.1, hy.2.1]; exact h.out)).mono ?_; rintro e w3 ⟨rfl, rfl⟩))
  clear s1 s2
  rename_i _ hHeld
  clear hHeld
  obtain ⟨u5, rfl⟩ := u3.drew.go b1
  obtain ⟨u6, rfl⟩ := u5.go b2
  clear u u2 u3 u5 b1 b2 o1 o2
  go_wp2_with (fail)
  go_ret
  exact ⟨ret_int (by rw [cmpI_lt h.out]), u6.below⟩
set_option maxHeartbeats 1600000 in
theorem refCmp_eq (a b : Nat) (ha : Hid (a < M)) (hb : Hid (b < M)) (w : World) (h : Hid (a = b)) : Calls Try.prog 16 #[wv a, wv b] w (Ret (.int .i64 (cmpI a b)) w) := by
  have HDA := Lib.hid (digits32_any a ha)
  have HDB := Lib.hid (digits32_any b hb)
  have HQ := Lib.hid (eqlW a b ha.out hb.out)
  refine enter fun u => ?_
  go_enter Try.func16, Try.ntmps16
  go_wp2_with (first | ((with_reducible apply list_box); exact rfl; intro _ _))
  rename_i g2 u2 g3 u3 _ _ _ _
  have s1 : At8 g2 (cells 8 a) u3.w := fun j => by simp
  have s2 : At8 g3 (cells 8 b) u3.w := fun j => by simp
  go_region_held3 (fun w' => At8 g2 (cells 8 a) w' ∧ At8 g3 (cells 8 b) w') (first | exact ⟨s1, s2⟩ | assumption | (refine At8.both (by simp) (by simp) ?_ (by assumption); assumption))
    (first
      | (go_at_call 7; (with_reducible refine (HDA.out _).mono ?_); rintro e w1 ⟨v1, x, rfl, hx, o1, b1⟩)
      | (go_at_call 7; (with_reducible refine (HDB.out _).mono ?_); rintro e w2 ⟨v2, y, rfl, hy, o2, b2⟩)
      | (go_at_call 31; refine (less_no _ _ x y _ (o1.rd.later b2 (Nat.le_refl _)) o2.rd hx.1 hy.1 (by have := hx.2.2; omega) (by have := hy.2.2; omega) (by rw [hx.2.1, hy.2.1]; exact Nat.le_of_eq h.out.symm)).mono ?_; rintro e w3 ⟨rfl, rfl⟩))
  clear s1 s2
  rename_i _ hHeld
  clear hHeld
  obtain ⟨u5, rfl⟩ := u3.drew.go b1
  obtain ⟨u6, rfl⟩ := u5.go b2
  clear u u2 u3 u5 b1 b2 o1 o2
  have hq := HQ.out
  rw [show eqB a b = true from decide_eq_true h.out] at hq
  go_wp2_with (first | ((with_reducible apply lst_load); exact rfl; infer_instance; exact rowW; exact cells_size _ _))
  go_ret
  exact ⟨ret_int (by rw [h.out, cmpI_eq]), u6.below⟩
set_option maxHeartbeats 1600000 in
theorem refCmp_gt (a b : Nat) (ha : Hid (a < M)) (hb : Hid (b < M)) (w : World) (h : Hid (b < a)) : Calls Try.prog 16 #[wv a, wv b] w (Ret (.int .i64 (cmpI a b)) w) := by
  have HDA := Lib.hid (digits32_any a ha)
  have HDB := Lib.hid (digits32_any b hb)
  have HQ := Lib.hid (eqlW a b ha.out hb.out)
  refine enter fun u => ?_
  go_enter Try.func16, Try.ntmps16
  go_wp2_with (first | ((with_reducible apply list_box); exact rfl; intro _ _))
  rename_i g2 u2 g3 u3 _ _ _ _
  have s1 : At8 g2 (cells 8 a) u3.w := fun j => by simp
  have s2 : At8 g3 (cells 8 b) u3.w := fun j => by simp
  go_region_held3 (fun w' => At8 g2 (cells 8 a) w' ∧ At8 g3 (cells 8 b) w') (first | exact ⟨s1, s2⟩ | assumption | (refine At8.both (by simp) (by simp) ?_ (by assumption); assumption))
    (first
      | (go_at_call 7; (with_reducible refine (HDA.out _).mono ?_); rintro e w1 ⟨v1, x, rfl, hx, o1, b1⟩)
      | (go_at_call 7; (with_reducible refine (HDB.out _).mono ?_); rintro e w2 ⟨v2, y, rfl, hy, o2, b2⟩)
      | (go_at_call 31; refine (less_no _ _ x y _ (o1.rd.later b2 (Nat.le_refl _)) o2.rd hx.1 hy.1 (by have := hx.2.2; omega) (by have := hy.2.2; omega) (by rw [hx.2.1, hy.2.1]; exact Nat.le_of_lt h.out)).mono ?_; rintro e w3 ⟨rfl, rfl⟩))
  clear s1 s2
  rename_i _ hHeld
  clear hHeld
  obtain ⟨u5, rfl⟩ := u3.drew.go b1
  obtain ⟨u6, rfl⟩ := u5.go b2
  clear u u2 u3 u5 b1 b2 o1 o2
  have hq := HQ.out
  rw [show eqB a b = false from decide_eq_false (Nat.ne_of_gt h.out)] at hq
  go_wp2_with (first | ((with_reducible apply lst_load); exact rfl; infer_instance; exact rowW; exact cells_size _ _))
  go_ret
  exact ⟨ret_int (by rw [cmpI_gt h.out]), u6.below⟩
theorem refCmp_any (a b : Nat) (ha : Hid (a < M)) (hb : Hid (b < M)) (w : World) : Calls Try.prog 16 #[wv a, wv b] w (Ret (.int .i64 (cmpI a b)) w) := by
  rcases Nat.lt_trichotomy a b with h | h | h
  · exact refCmp_lt a b ha hb w (Lib.hid h)
  · exact refCmp_eq a b ha hb w (Lib.hid h)
  · exact refCmp_gt a b ha hb w (Lib.hid h)
end Go.Proofs.Ytlphfpaefgcidaa.WideW
