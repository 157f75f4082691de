/-
  The walk of the law WideLaws.
-/
import Derived.Test.YtlphfpaefgcidaaWideLaws
namespace Go.Proofs.Ytlphfpaefgcidaa.WideW
open Go.RowKit
open DigM WideM WideV KM DigW
theorem add_is (a b n : Nat) (ha : Hid (a < M)) (hb : Hid (b < M)) (h : low (a + b) = n) : ∃ f : Bool, Hid (∀ w, Calls Try.prog 8 #[wv a, wv b] w (Ret (.tuple #[wv n, .bool f]) w)) := by
  subst h; exact ⟨_, Lib.hid fun w => wadd_any a b ha hb w⟩
theorem sub_is (a b n : Nat) (ha : Hid (a < M)) (hb : Hid (b < M)) (h : subL a b = n) : ∃ f : Bool, Hid (∀ w, Calls Try.prog 9 #[wv a, wv b] w (Ret (.tuple #[wv n, .bool f]) w)) := by
  subst h; exact ⟨_, Lib.hid fun w => wsub_any a b ha hb w⟩
theorem mul_is (a b n : Nat) (ha : Hid (a < M)) (hb : Hid (b < M)) (h : low (a * b) = n) : ∃ f : Bool, Hid (∀ w, Calls Try.prog 10 #[wv a, wv b] w (Ret (.tuple #[wv n, .bool f]) w)) := by
  subst h; exact ⟨_, Lib.hid fun w => wmul_any a b ha hb w⟩
theorem lowH (n : Nat) : Hid (low n < M) := Lib.hid (low_lt n)
theorem low_add_l (m n : Nat) : low (low m + n) = low (m + n) := Nat.mod_add_mod _ _ _
theorem low_add_r (m n : Nat) : low (m + low n) = low (m + n) := Nat.add_mod_mod _ _ _
theorem low_mul_r (m n : Nat) : low (m * low n) = low (m * n) := Nat.mul_mod_mod _ _ _
theorem sub_back (a b : Nat) (ha : a < M) (hb : b < M) : subL (low (a + b)) b = a := by
  unfold subL low
  rcases Nat.lt_or_ge (a + b) M with h | h
  · rw [Nat.mod_eq_of_lt h, show a + b + M - b = a + M by omega, Nat.add_mod_right, Nat.mod_eq_of_lt ha]
  · have e : (a + b) % M = a + b - M := by
      rw [Nat.mod_eq_sub_mod h, Nat.mod_eq_of_lt (by omega)]
    rw [e, show a + b - M + M - b = a by omega, Nat.mod_eq_of_lt ha]
def TrueAt3 (w : World) (e : Ending) (w' : World) : Prop := e = .returned (.bool true) ∧ Below w.heap.size w w'
set_option maxRecDepth 100000 in
set_option maxHeartbeats 6400000 in
theorem wideLaws_walk (a b c : Nat) (w : World) (ha : Hid (a < M)) (hb : Hid (b < M)) (hc : Hid (c < M)) : Calls Try.prog 5 #[wv a, wv b, wv c] w (TrueAt3 w) := by
  obtain ⟨f1, F1⟩ := add_is a b _ ha hb rfl
  obtain ⟨f2, F2⟩ := add_is b a (low (a + b)) hb ha (by rw [Nat.add_comm])
  obtain ⟨f3, F3⟩ := add_is b c _ hb hc rfl
  obtain ⟨f4, F4⟩ := add_is (low (a + b)) c (low (a + b + c)) (lowH _) hc (low_add_l _ _)
  obtain ⟨f5, F5⟩ := add_is a (low (b + c)) (low (a + b + c)) ha (lowH _) (by rw [low_add_r, Nat.add_assoc])
  obtain ⟨f6, F6⟩ := mul_is a b _ ha hb rfl
  obtain ⟨f7, F7⟩ := mul_is b a (low (a * b)) hb ha (by rw [Nat.mul_comm])
  obtain ⟨f8, F8⟩ := mul_is a c _ ha hc rfl
  obtain ⟨f9, F9⟩ := mul_is a (low (b + c)) (low (a * b + a * c)) ha (lowH _) (by rw [low_mul_r, Nat.mul_add])
  obtain ⟨f10, F10⟩ := add_is (low (a * b)) (low (a * c)) (low (a * b + a * c)) (lowH _) (lowH _) (by rw [low_add_l, low_add_r])
  obtain ⟨f11, F11⟩ := sub_is (low (a + b)) b a (lowH _) hb (sub_back a b ha.out hb.out)
  generalize low (a + b + c) = abc at *
  generalize low (a * b + a * c) = s at *
  generalize low (a + b) = ab at *
  generalize low (b + c) = bc at *
  generalize low (a * b) = x at *
  generalize low (a * c) = z at *
  refine enter fun u => ?_
  go_enter Try.func5, Try.ntmps5
  go_wp2_with (first
    | ((with_reducible apply list_box); exact rfl; intro _ _)
    | ((with_reducible apply list_alloc); exact zeroW; intro _ _)
    | ((with_reducible apply lst_load); exact rfl; infer_instance; exact rowW; exact cells_size _ _)
    | ((with_reducible apply lst_store); exact rfl; exact rfl; infer_instance; exact rowW; exact cells_size _ _; exact cells_size _ _; exact cells_one _ _; intro _)
    | (go_at_call 8; (with_reducible refine (F1.out _).mono ?_); rintro e w' ⟨rfl, hb'⟩; obtain ⟨_, rfl⟩ := KW.go _ hb'; clear hb')
    | (go_at_call 8; (with_reducible refine (F2.out _).mono ?_); rintro e w' ⟨rfl, hb'⟩; obtain ⟨_, rfl⟩ := KW.go _ hb'; clear hb')
    | (go_at_call 8; (with_reducible refine (F3.out _).mono ?_); rintro e w' ⟨rfl, hb'⟩; obtain ⟨_, rfl⟩ := KW.go _ hb'; clear hb')
    | (go_at_call 8; (with_reducible refine (F4.out _).mono ?_); rintro e w' ⟨rfl, hb'⟩; obtain ⟨_, rfl⟩ := KW.go _ hb'; clear hb')
    | (go_at_call 8; (with_reducible refine (F5.out _).mono ?_); rintro e w' ⟨rfl, hb'⟩; obtain ⟨_, rfl⟩ := KW.go _ hb'; clear hb')
    | (go_at_call 10; (with_reducible refine (F6.out _).mono ?_); rintro e w' ⟨rfl, hb'⟩; obtain ⟨_, rfl⟩ := KW.go _ hb'; clear hb')
    | (go_at_call 10; (with_reducible refine (F7.out _).mono ?_); rintro e w' ⟨rfl, hb'⟩; obtain ⟨_, rfl⟩ := KW.go _ hb'; clear hb')
    | (go_at_call 10; (with_reducible refine (F8.out _).mono ?_); rintro e w' ⟨rfl, hb'⟩; obtain ⟨_, rfl⟩ := KW.go _ hb'; clear hb')
    | (go_at_call 10; (with_reducible refine (F9.out _).mono ?_); rintro e w' ⟨rfl, hb'⟩; obtain ⟨_, rfl⟩ := KW.go _ hb'; clear hb')
    | (go_at_call 8; (with_reducible refine (F10.out _).mono ?_); rintro e w' ⟨rfl, hb'⟩; obtain ⟨_, rfl⟩ := KW.go _ hb'; clear hb')
    | (go_at_call 9; (with_reducible refine (F11.out _).mono ?_); rintro e w' ⟨rfl, hb'⟩; obtain ⟨_, rfl⟩ := KW.go _ hb'; clear hb')
    | (go_at_call 17; refine (awake_any _).mono ?_; rintro e w' ⟨rfl, hb'⟩; obtain ⟨_, rfl⟩ := KW.go _ hb'; clear hb'))
  go_ret
  exact ⟨rfl, KW.below _⟩
end Go.Proofs.Ytlphfpaefgcidaa.WideW
