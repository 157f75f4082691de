/-
  The document's own answers of layer 4: what divides two numbers most; a number's digits: contracts over the translation.
-/
import Derived.Test.YtiklebonkpjlpaaDoorQuotRef
import Derived.Test.YtiklebonkpjlpaaDoorDecMath
import Derived.LoopTactic
namespace Go.Proofs.YtiklebonkpjlpaaDoor.QuotW
open Go.RowKit
open DigM WideM WideV KM DigW WideW QuotM DecM
open Go.Lib (decDigits nDigits)
theorem eql0 (y : Nat) (hy : y < M) (w : World) : (Op.equalIn 10000 24 (.agg (cells 8 y)) (.agg #[.int .u64 0, .int .u64 0, .int .u64 0, .int .u64 0, .int .u64 0, .int .u64 0, .int .u64 0, .int .u64 0])).run Tryd.prog w = .ok (eqB y 0) w := by
  have := eqlW y 0 hy M_pos w
  rw [← nought] at this
  exact this
def GrRel (a b : Nat) (w : World) (g2 g3 g4 : Nat) (i : Value) (wr : World) : Prop :=
  ∃ (k x y : Nat) (u : KW w [⟨g4, cells 8 0, 24⟩, ⟨g3, cells 8 y, 24⟩, ⟨g2, cells 8 x, 24⟩]), i = .int .i64 k ∧ k < 1000 ∧ wr = u.w ∧
    Hid (x < M ∧ y < M ∧ Nat.gcd x y = Nat.gcd a b ∧ ((k = 0 ∧ y = b) ∨ ∃ j, k = j + 1 ∧ RestsW b j x y))
set_option maxRecDepth 100000 in
set_option maxHeartbeats 3200000 in
theorem refGcd_any (a b : Nat) (ha : Hid (a < M)) (hb : Hid (b < M)) (w : World) : Calls Tryd.prog 13 #[wv a, wv b] w (Ret (wv (Nat.gcd a b)) w) := by
  unfold wv
  refine enter fun u => ?_
  go_enter Tryd.func13, Tryd.ntmps13
  go_wp2_with (first
    | ((with_reducible apply list_box); exact rfl; intro _ _)
    | ((with_reducible apply list_alloc); exact zeroW; intro _ _))
  rename_i g2 x2 g3 x3 g4 u4 _ _
  go_loopw [5] (GrRel a b w g2 g3 g4) (fun i _ => 1000 - (intOf i).toNat)
  case atStart => exact ⟨0, a, b, u4, rfl, by decide, rfl, Lib.hid ⟨ha.out, hb.out, rfl, Or.inl ⟨rfl, rfl⟩⟩⟩
  case round =>
    clear x2 x3 u4
    obtain ⟨k, x, y, u, rfl, hk, rfl, hG⟩ := hrel
    have hk1 : (k : Int) < 1000 := by omega
    have heq := eql0 y hG.out.2.1
    by_cases h0 : y = 0
    · subst h0
      rw [eqB_same] at heq
      have HE : Hid (Nat.gcd a b = x) := Lib.hid (by have := hG.out.2.2.1; rw [Nat.gcd_zero_right] at this; exact this.symm)
      go_wp2_with (first
        | ((with_reducible apply lst_load); exact rfl; infer_instance; exact rowW; exact cells_size _ _)
        | ((with_reducible apply lst_store); exact rfl; exact rfl; infer_instance; exact rowW; exact cells_size _ _; exact cells_size _ _; exact cells_one _ _; intro _))
      refine body_cell Tryd.results13 rfl rowW (cells_size _ _) ⟨?_, KW.below _⟩
      rw [HE.out]
    · rw [show eqB y 0 = false from decide_eq_false h0] at heq
      have hp : 0 < y := by omega
      have FO := Lib.hid (fun w => refOver_any x y (Lib.hid hG.out.1) (Lib.hid hG.out.2.1) (Lib.hid hp) w)
      have hr : RestsW b k y (x % y) := by
        rcases hG.out.2.2.2 with ⟨rfl, rfl⟩ | ⟨j, rfl, hj⟩
        · exact RestsW.start hp
        · exact hj.next hp
      have hk2 := hr.few hb.out
      have HN : Hid (y < M ∧ x % y < M ∧ Nat.gcd y (x % y) = Nat.gcd a b ∧ ((k + 1 = 0 ∧ x % y = b) ∨ ∃ j, k + 1 = j + 1 ∧ RestsW b j y (x % y))) :=
        Lib.hid ⟨hG.out.2.1, Nat.lt_trans (Nat.mod_lt _ hp) hG.out.2.1, by rw [← hG.out.2.2.1, Nat.gcd_comm x y, Nat.gcd_rec y x, Nat.gcd_comm], Or.inr ⟨k, rfl, hr⟩⟩
      generalize x / y = q at *
      generalize x % y = r at *
      clear hr h0 hp
      go_wp2_with (first
        | ((with_reducible apply list_alloc); exact zeroW; intro _ _)
        | ((with_reducible apply lst_load); exact rfl; infer_instance; exact rowW; exact cells_size _ _)
        | ((with_reducible apply lst_store); exact rfl; exact rfl; infer_instance; exact rowW; exact cells_size _ _; exact cells_size _ _; exact cells_one _ _; intro _)
        | (go_at_call 8; (with_reducible refine (FO.out _).mono ?_); rintro e w' ⟨rfl, hb'⟩; obtain ⟨_, rfl⟩ := KW.go _ hb'; clear hb'))
      clear heq
      try simp only [Act.put, List.setIfInBounds_toArray, List.set_cons_succ, List.set_cons_zero]
      refine region_any [1] [0, 2, 3] _ (Sub.both (h := Sub.skip (h := Sub.skip (h := Sub.skip (h := Sub.skip (h := Sub.nil)))))) (by kernel_rfl) (by kernel_rfl) ?_
      simp only [pick, List.filterMap_cons, List.filterMap_nil, List.getElem?_cons_zero, List.getElem?_cons_succ]
      (with_reducible apply head_load); exact rfl; infer_instance; exact rowW; exact cells_size _ _
      refine head_nil ?_
      (with_reducible apply tailS_load); exact rfl; infer_instance; infer_instance; exact rowW; exact cells_size _ _
      (with_reducible apply tailS_store); exact rfl; exact rfl; infer_instance; infer_instance; exact rowW; exact cells_size _ _; exact cells_size _ _; exact cells_one _ _
      (with_reducible apply tailS_store); exact rfl; exact rfl; infer_instance; infer_instance; exact rowW; exact cells_size _ _; exact cells_size _ _; exact cells_one _ _
      refine tailS_nil fun u4 => ?_
      simp only [Act.put, List.setIfInBounds_toArray, List.set_cons_succ, List.set_cons_zero]
      go_wp2_with (fail)
      obtain ⟨u5, hu5⟩ := KW.weak (h := Sub.skip (h := Sub.skip (h := Sub.both (h := Sub.both (h := Sub.both (h := Sub.nil)))))) u4
      rw [hu5]
      go_roundw
      case rel => exact ⟨k + 1, y, r, u5, by go_num, by omega, rfl, HN⟩
      case measure => simp [intOf]; omega
theorem ten8 : (#[.int .u64 10, .int .u64 0, .int .u64 0, .int .u64 0, .int .u64 0, .int .u64 0, .int .u64 0, .int .u64 0] : Array Value) = cells 8 10 := by kernel_rfl
theorem cut10 (k : Nat) (h : k < 10) : (ByteArray.mk #[48, 49, 50, 51, 52, 53, 54, 55, 56, 57]).extract k (k + 1) = ⟨#[UInt8.ofNat (48 + k)]⟩ := by
  revert k; decide +kernel
theorem app10 (k : Nat) (h : k < 10) (s : List UInt8) : (ByteArray.mk #[48, 49, 50, 51, 52, 53, 54, 55, 56, 57]).extract k (k + 1) ++ ⟨s.toArray⟩ = ⟨(UInt8.ofNat (48 + k) :: s).toArray⟩ := by
  rw [cut10 k h]
  apply ByteArray.ext
  rw [ByteArray.data_append]
  simp
/-- behind k digits -/
def TextW (a k x : Nat) (s : List UInt8) : Prop := decDigits a = decDigits x ++ s ∧ s.length = k ∧ x < M
theorem TextW.few {a k x : Nat} {s : List UInt8} (h : TextW a k x s) (ha : a < M) : k < 155 := by
  obtain ⟨h1, h2, _⟩ := h
  have h3 := congrArg List.length h1
  rw [List.length_append, Lib.decDigits_length, Lib.decDigits_length] at h3
  have h4 := Lib.nDigits_pos x
  have h5 : M ≤ 10 ^ (154 + 1) := by unfold M; rw [B_eq]; decide +kernel
  have h6 := nDig_le 154 a (Nat.lt_of_lt_of_le ha h5)
  omega
theorem TextW.next {a k x : Nat} {s : List UInt8} (h : TextW a k x s) (hx : 10 ≤ x) : TextW a (k + 1) (x / 10) (UInt8.ofNat (48 + x % 10) :: s) := by
  obtain ⟨h1, h2, h3⟩ := h
  refine ⟨by rw [h1, dec_big hx, List.append_assoc]; rfl, by rw [List.length_cons, h2], by omega⟩
theorem TextW.last {a k x : Nat} {s : List UInt8} (h : TextW a k x s) (hx : x < 10) : decDigits a = UInt8.ofNat (48 + x) :: s := by
  rw [h.1, dec_small hx]; rfl
def RxRel (a : Nat) (w : World) (g1 : Nat) (t i : Value) (wr : World) : Prop :=
  ∃ (k x : Nat) (s : List UInt8) (u : KW w [⟨g1, cells 8 x, 24⟩]), i = .int .i64 k ∧ t = .string ⟨s.toArray⟩ ∧ k < 155 ∧ s.length < 155 ∧ wr = u.w ∧ Hid (TextW a k x s)
set_option maxRecDepth 100000 in
set_option maxHeartbeats 3200000 in
theorem refText_any (a : Nat) (ha : Hid (a < M)) (w : World) : Calls Tryd.prog 20 #[wv a] w (Ret (.string ⟨(decDigits a).toArray⟩) w) := by
  have m10 : Hid (10 < M) := Lib.hid (by unfold M; rw [B_eq]; decide +kernel)
  have h10 := ten8
  unfold wv
  refine enter fun u => ?_
  go_enter Tryd.func20, Tryd.ntmps20
  go_wp2_with (first
    | ((with_reducible apply list_box); exact rfl; intro _ _))
  rename_i g1 u1 _ _
  go_loopw [4, 5] (RxRel a w g1) (fun _ i _ => 160 - (intOf i).toNat)
  case atStart => exact ⟨0, a, [], u1, rfl, rfl, by decide, by decide, rfl, Lib.hid ⟨by simp, rfl, ha.out⟩⟩
  case round =>
    clear u1
    obtain ⟨k, x, s, u, rfl, rfl, hk, hs, rfl, hT⟩ := hrel
    have hk1 : (k : Int) < 160 := by omega
    have FO := Lib.hid (fun w => refOver_any x 10 (Lib.hid hT.out.2.2) m10 (Lib.hid (by decide)) w)
    have hq : x / 10 < M := by have := hT.out.2.2; omega
    have heq := eql0 (x / 10) hq
    have hr10 : x % 10 < 10 := Nat.mod_lt _ (by decide)
    have hwd : wd (x % 10) 0 = x % 10 := by unfold wd; simp; exact Nat.mod_eq_of_lt (by rw [B_eq]; omega)
    have c0 := cells_at (show 0 < 8 by decide) hwd
    have happ := app10 (x % 10) hr10 s
    by_cases h9 : 10 ≤ x
    · rw [show eqB (x / 10) 0 = false from decide_eq_false (by omega)] at heq
      have hn := hT.out.next h9
      have hk2 := hn.few ha.out
      have HN := Lib.hid hn
      have HS : Hid ((UInt8.ofNat (48 + x % 10) :: s).length < 155) := Lib.hid (by rw [hn.2.1]; exact hk2)
      generalize x / 10 = q at *
      generalize x % 10 = r at *
      generalize UInt8.ofNat (48 + r) :: s = s' at *
      clear hn h9 hq hwd
      go_wp2_with (first
        | ((with_reducible apply list_alloc); exact zeroW; intro _ _)
        | ((with_reducible apply lst_load); exact rfl; infer_instance; exact rowW; exact cells_size _ _)
        | ((with_reducible apply lst_store); exact rfl; exact rfl; infer_instance; exact rowW; exact cells_size _ _; exact cells_size _ _; exact cells_one _ _; intro _)
        | (go_at_call 8; (with_reducible refine (FO.out _).mono ?_); rintro e w' ⟨rfl, hb'⟩; obtain ⟨_, rfl⟩ := KW.go _ hb'; clear hb'))
      rename_i ux
      obtain ⟨uy, huy⟩ := KW.weak (h := Sub.skip (h := Sub.skip (h := Sub.both (h := Sub.nil)))) ux
      rw [huy]
      refine ⟨⟨k + 1, q, s', uy, by go_num, rfl, hk2, HS.out, rfl, HN⟩, ?_⟩
      simp [intOf]; omega
    · rw [show eqB (x / 10) 0 = true from decide_eq_true (by omega)] at heq
      have HN := Lib.hid (hT.out.last (by omega))
      rw [show x % 10 = x from Nat.mod_eq_of_lt (by omega)] at *
      have HE : Hid ((⟨(UInt8.ofNat (48 + x) :: s).toArray⟩ : ByteArray) = ⟨(decDigits a).toArray⟩) := Lib.hid (by rw [HN.out])
      generalize x / 10 = q at *
      generalize UInt8.ofNat (48 + x) :: s = s' at *
      clear hq hwd h9
      go_wp2_with (first
        | ((with_reducible apply list_alloc); exact zeroW; intro _ _)
        | ((with_reducible apply lst_load); exact rfl; infer_instance; exact rowW; exact cells_size _ _)
        | ((with_reducible apply lst_store); exact rfl; exact rfl; infer_instance; exact rowW; exact cells_size _ _; exact cells_size _ _; exact cells_one _ _; intro _)
        | (go_at_call 8; (with_reducible refine (FO.out _).mono ?_); rintro e w' ⟨rfl, hb'⟩; obtain ⟨_, rfl⟩ := KW.go _ hb'; clear hb'))
      go_ret
      exact ⟨by rw [HE.out]; rfl, KW.below _⟩
end Go.Proofs.YtiklebonkpjlpaaDoor.QuotW
