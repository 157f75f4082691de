/-
  The laws of layer 4: the layer's own example, and QuotOver.
-/
import Derived.Test.YtiklebonkpjlpaaDoorQuot7
import Derived.Test.YtiklebonkpjlpaaDoorQuot8
import Derived.Test.YtiklebonkpjlpaaDoorQuot10
import Derived.Test.YtiklebonkpjlpaaDoorQuotRef2
namespace Go.Proofs.YtiklebonkpjlpaaDoor.QuotW
open Go.RowKit
open DigM WideM WideV KM DigW WideW QuotM DecM FmtW
open Go.Lib (decDigits nDigits)
theorem two64 : (#[.int .u64 0, .int .u64 1, .int .u64 0, .int .u64 0, .int .u64 0, .int .u64 0, .int .u64 0, .int .u64 0] : Array Value) = cells 8 18446744073709551616 := by kernel_rfl
theorem twelve8 : (#[.int .u64 12, .int .u64 0, .int .u64 0, .int .u64 0, .int .u64 0, .int .u64 0, .int .u64 0, .int .u64 0] : Array Value) = cells 8 12 := by kernel_rfl
theorem eighteen8 : (#[.int .u64 18, .int .u64 0, .int .u64 0, .int .u64 0, .int .u64 0, .int .u64 0, .int .u64 0, .int .u64 0] : Array Value) = cells 8 18 := by kernel_rfl
theorem six8 : (#[.int .u64 6, .int .u64 0, .int .u64 0, .int .u64 0, .int .u64 0, .int .u64 0, .int .u64 0, .int .u64 0] : Array Value) = cells 8 6 := by kernel_rfl
theorem quo8 : (#[.int .u64 1844674407370955161, .int .u64 0, .int .u64 0, .int .u64 0, .int .u64 0, .int .u64 0, .int .u64 0, .int .u64 0] : Array Value) = cells 8 1844674407370955161 := by kernel_rfl
theorem dig64 : decDigits 18446744073709551616 = [49, 56, 52, 52, 54, 55, 52, 52, 48, 55, 51, 55, 48, 57, 53, 53, 49, 54, 49, 54] := by
  iterate 19 rw [dec_big (by decide)]
  rw [dec_small (by decide)]
  decide +kernel
/-- what the layer's example reckons with, its numbers behind names -/
theorem example_parts4 : ∃ n t p q s x : Nat, Hid (n < M ∧ t < M ∧ p < M ∧ q < M ∧ s < M ∧ x < M) ∧
    (#[.int .u64 0, .int .u64 1, .int .u64 0, .int .u64 0, .int .u64 0, .int .u64 0, .int .u64 0, .int .u64 0] : Array Value) = cells 8 n ∧ (#[.int .u64 10, .int .u64 0, .int .u64 0, .int .u64 0, .int .u64 0, .int .u64 0, .int .u64 0, .int .u64 0] : Array Value) = cells 8 t ∧
    (#[.int .u64 12, .int .u64 0, .int .u64 0, .int .u64 0, .int .u64 0, .int .u64 0, .int .u64 0, .int .u64 0] : Array Value) = cells 8 p ∧ (#[.int .u64 18, .int .u64 0, .int .u64 0, .int .u64 0, .int .u64 0, .int .u64 0, .int .u64 0, .int .u64 0] : Array Value) = cells 8 q ∧
    (#[.int .u64 6, .int .u64 0, .int .u64 0, .int .u64 0, .int .u64 0, .int .u64 0, .int .u64 0, .int .u64 0] : Array Value) = cells 8 s ∧ (#[.int .u64 1844674407370955161, .int .u64 0, .int .u64 0, .int .u64 0, .int .u64 0, .int .u64 0, .int .u64 0, .int .u64 0] : Array Value) = cells 8 x ∧
    Hid (∀ w, Calls Tryd.prog 6 #[wv n, wv t] w (Ret (OverV x s 0) w)) ∧ Hid (∀ w, Calls Tryd.prog 12 #[wv p, wv q] w (Ret (wv s) w)) ∧
    Hid (∀ w, Tab w → Calls Tryd.prog 19 #[wv n] w (Ret (.string ⟨#[49, 56, 52, 52, 54, 55, 52, 52, 48, 55, 51, 55, 48, 57, 53, 53, 49, 54, 49, 54]⟩) w)) := by
  have hM : 18446744073709551617 < M := by unfold M; rw [B_eq]; decide +kernel
  have mn : Hid (18446744073709551616 < M) := Lib.hid (by omega)
  have mt : Hid (10 < M) := Lib.hid (by omega)
  have mp : Hid (12 < M) := Lib.hid (by omega)
  have mq : Hid (18 < M) := Lib.hid (by omega)
  refine ⟨18446744073709551616, 10, 12, 18, 6, 1844674407370955161, Lib.hid ⟨mn.out, mt.out, mp.out, mq.out, by omega, by omega⟩, two64, ten8, twelve8, eighteen8, six8, quo8, Lib.hid fun w => ?_, Lib.hid fun w => ?_, Lib.hid fun w ht => ?_⟩
  · exact over_some 18446744073709551616 10 mn mt (by decide) w
  · exact gcd_any 12 18 mp mq w
  · have := text_any 18446744073709551616 mn w ht
    unfold vs at this
    rw [dig64] at this
    exact this
set_option maxRecDepth 100000 in
set_option maxHeartbeats 3200000 in
theorem awake4_any (w : World) (ht : Tab w) : Calls Tryd.prog 7 #[] w (Ret (.bool true) w) := by
  obtain ⟨n, t, p, q, s, x, HB, en, et, ep, eq, es, ex, HO, HG, HTX⟩ := example_parts4
  have HT := Lib.hid ht
  clear ht
  refine enter fun u => ?_
  go_enter Tryd.func7, Tryd.ntmps7
  go_wp2_with (first
    | ((with_reducible apply list_alloc); exact zeroW; intro _ _)
    | ((with_reducible apply lst_load); exact rfl; infer_instance; exact rowW; exact cells_size _ _)
    | ((with_reducible apply lst_store); exact rfl; exact rfl; infer_instance; exact rowW; exact cells_size _ _; exact cells_size _ _; exact cells_one _ _; intro _)
    | (go_at_call 6; (with_reducible refine (HO.out _).mono ?_); rintro e w' ⟨rfl, hb'⟩; obtain ⟨_, rfl⟩ := KW.go _ hb'; clear hb')
    | (go_at_call 12; (with_reducible refine (HG.out _).mono ?_); rintro e w' ⟨rfl, hb'⟩; obtain ⟨_, rfl⟩ := KW.go _ hb'; clear hb')
    | (go_at_call 19; (with_reducible refine (HTX.out _ (HT.out.later (KW.below _) (Nat.le_refl _))).mono ?_); rintro e w' ⟨rfl, hb'⟩; obtain ⟨_, rfl⟩ := KW.go _ hb'; clear hb'))
  go_ret
  exact ⟨rfl, KW.below _⟩
def TrueAt4 (w : World) (e : Ending) (w' : World) : Prop := e = .returned (.bool true) ∧ Below w.heap.size w w'
theorem eqF (y : Nat) (hy : y < M) (h : ¬ y = 0) (w : World) : (Op.equalIn 10000 24 (.agg (cells 8 y)) (.agg (cells 8 0))).run Tryd.prog w = .ok false w := by
  rw [eqlW y 0 hy M_pos w, show eqB y 0 = false from decide_eq_false h]
set_option maxRecDepth 100000 in
set_option maxHeartbeats 3200000 in
theorem quotOver_0 (a : Nat) (w : World) (ht : Tab w) : Calls Tryd.prog 3 #[wv a, wv 0] w (TrueAt4 w) := by
  have HO := Lib.hid (fun w => over_zero a w)
  have HA := Lib.hid (fun w (ht : Tab w) => awake4_any w ht)
  have HT := Lib.hid ht
  have h0 := nought
  clear ht
  refine enter fun u => ?_
  go_enter Tryd.func3, Tryd.ntmps3
  go_wp2_with (first
    | ((with_reducible apply list_box); exact rfl; intro _ _)
    | ((with_reducible apply list_alloc); exact zeroW; intro _ _)
    | ((with_reducible apply lst_load); exact rfl; infer_instance; exact rowW; exact cells_size _ _)
    | ((with_reducible apply lst_store); exact rfl; exact rfl; infer_instance; exact rowW; exact cells_size _ _; exact cells_size _ _; exact cells_one _ _; intro _)
    | (go_at_call 6; (with_reducible refine (HO.out _).mono ?_); rintro e w' ⟨rfl, hb'⟩; obtain ⟨_, rfl⟩ := KW.go _ hb'; clear hb')
    | (go_at_call 7; (with_reducible refine (HA.out _ (HT.out.later (KW.below _) (Nat.le_refl _))).mono ?_); rintro e w' ⟨rfl, hb'⟩; obtain ⟨_, rfl⟩ := KW.go _ hb'; clear hb'))
  go_ret
  exact ⟨rfl, KW.below _⟩
set_option maxRecDepth 100000 in
set_option maxHeartbeats 6400000 in
theorem quotOver_1 (a b : Nat) (ha : Hid (a < M)) (hb : Hid (b < M)) (hp : 0 < b) (w : World) (ht : Tab w) : Calls Tryd.prog 3 #[wv a, wv b] w (TrueAt4 w) := by
  have HO := Lib.hid (fun w => over_some a b ha hb hp w)
  have HR := Lib.hid (fun w => refOver_any a b ha hb (Lib.hid hp) w)
  have HA := Lib.hid (fun w (ht : Tab w) => awake4_any w ht)
  have HT := Lib.hid ht
  have h0 := nought
  have heq := eqF b hb.out (by omega)
  have hsum : a / b * b + a % b = a := by rw [Nat.mul_comm]; exact Nat.div_add_mod a b
  have hq : a / b < M := Nat.lt_of_le_of_lt (Nat.div_le_self a b) ha.out
  have hrb := Nat.mod_lt a hp
  have hr : a % b < M := Nat.lt_trans hrb hb.out
  have hm : a / b * b < M := by have := ha.out; omega
  have FM := fun w => wmul_any (a / b) b (Lib.hid hq) hb w
  rw [low_of hm, show fitB (a / b * b) = true from decide_eq_true hm] at FM
  have FA := fun w => wadd_any (a / b * b) (a % b) (Lib.hid hm) (Lib.hid hr) w
  rw [hsum, low_of ha.out, show fitB a = true from decide_eq_true ha.out] at FA
  have FC := fun w => wcmp_any (a % b) b (Lib.hid hr) hb w
  rw [cmpI_lt hrb] at FC
  have HFM := Lib.hid FM
  have HFA := Lib.hid FA
  have HFC := Lib.hid FC
  generalize a / b * b = m at *
  generalize a / b = q at *
  generalize a % b = r at *
  clear ht FM FA FC hsum hq hrb hr hm hp
  refine enter fun u => ?_
  go_enter Tryd.func3, Tryd.ntmps3
  go_wp2_with (first
    | ((with_reducible apply list_box); exact rfl; intro _ _)
    | ((with_reducible apply list_alloc); exact zeroW; intro _ _)
    | ((with_reducible apply lst_load); exact rfl; infer_instance; exact rowW; exact cells_size _ _)
    | ((with_reducible apply lst_store); exact rfl; exact rfl; infer_instance; exact rowW; exact cells_size _ _; exact cells_size _ _; exact cells_one _ _; intro _)
    | (go_at_call 6; (with_reducible refine (HO.out _).mono ?_); rintro e w' ⟨rfl, hb'⟩; obtain ⟨_, rfl⟩ := KW.go _ hb'; clear hb')
    | (go_at_call 8; (with_reducible refine (HR.out _).mono ?_); rintro e w' ⟨rfl, hb'⟩; obtain ⟨_, rfl⟩ := KW.go _ hb'; clear hb')
    | (go_at_call 9; (with_reducible refine (HFM.out _).mono ?_); rintro e w' ⟨rfl, hb'⟩; obtain ⟨_, rfl⟩ := KW.go _ hb'; clear hb')
    | (go_at_call 10; (with_reducible refine (HFA.out _).mono ?_); rintro e w' ⟨rfl, hb'⟩; obtain ⟨_, rfl⟩ := KW.go _ hb'; clear hb')
    | (go_at_call 11; (with_reducible refine (HFC.out _).mono ?_); rintro e w' ⟨rfl, hb'⟩; obtain ⟨_, rfl⟩ := KW.go _ hb'; clear hb')
    | (go_at_call 7; (with_reducible refine (HA.out _ (HT.out.later (KW.below _) (Nat.le_refl _))).mono ?_); rintro e w' ⟨rfl, hb'⟩; obtain ⟨_, rfl⟩ := KW.go _ hb'; clear hb'))
  go_ret
  exact ⟨rfl, KW.below _⟩
theorem quotOver_walk (a b : Nat) (ha : Hid (a < M)) (hb : Hid (b < M)) (w : World) (ht : Tab w) : Calls Tryd.prog 3 #[wv a, wv b] w (TrueAt4 w) := by
  by_cases h : b = 0
  · subst h; exact quotOver_0 a w ht
  · exact quotOver_1 a b ha hb (by omega) w ht
end Go.Proofs.YtiklebonkpjlpaaDoor.QuotW
