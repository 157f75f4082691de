/-
  package wide's shifts.
-/
import Derived.Test.YtiklebonkpjlpaaDoorWide4
namespace Go.Proofs.YtiklebonkpjlpaaDoor.WideW
open Go.RowKit
open DigM WideM WideV KM DigW
theorem or_join (x1 x2 l : Nat) (h1 : x1 < B) (h2 : x2 < B) : bits .or .u64 (IntKind.u64.wrap ((x1 : Int) * 2 ^ l)) ((x2 : Int) / 2 ^ (64 - l)) = (((x1 * 2 ^ l) % 2 ^ 64 ||| x2 / 2 ^ (64 - l) : Nat) : Int) := by
  have e1 : IntKind.u64.wrap ((x1 : Int) * 2 ^ l) = (((x1 * 2 ^ l) % 2 ^ 64 : Nat) : Int) := by
    rw [IntKind.wrap_u64, Int.natCast_emod, Int.natCast_mul, Int.natCast_pow]; rfl
  have e2 : (x2 : Int) / 2 ^ (64 - l) = ((x2 / 2 ^ (64 - l) : Nat) : Int) := by rw [Int.natCast_ediv, Int.natCast_pow]; rfl
  rw [e1, e2]
  have hm := Nat.mod_lt (x1 * 2 ^ l) (show 0 < 2 ^ 64 by decide)
  have hd := Nat.div_le_self x2 (2 ^ (64 - l))
  rw [B_eq] at h2
  exact u64_or_nat _ _ hm (by omega)
def ShRel (a : Nat) (z : Int) (w : World) (g2 g4 g7 : Nat) (i : Value) (wr : World) : Prop :=
  ∃ (k : Nat) (u : KW w [⟨g7, cells 8 (shN a z % B ^ k), 24⟩, ⟨g4, cells 8 0, 24⟩, ⟨g2, cells 8 a, 24⟩]), i = .int .i64 k ∧ k ≤ 8 ∧ wr = u.w
set_option maxHeartbeats 1600000 in
theorem wshift_any (a : Nat) (z : Int) (h1 : -9223372036854775808 ≤ z) (h2 : z ≤ 9223372036854775807) (ha : Hid (a < M)) (w : World) : Calls Tryd.prog 31 #[wv a, .int .i64 z] w (Ret (wv (shN a z)) w) := by
  obtain ⟨l, hl⟩ : ∃ l : Nat, z % 64 = l := ⟨(z % 64).toNat, by omega⟩
  have hl64 : l < 64 := by omega
  obtain ⟨q, hq⟩ : ∃ q : Int, z / 64 = q := ⟨_, rfl⟩
  have hq1 : -144115188075855872 ≤ q := by omega
  have hq2 : q ≤ 144115188075855872 := by omega
  have hand : bits .and .i64 z 63 = (l : Int) := by rw [i64_and63, hl]
  have HL := Lib.hid hl
  have HQ := Lib.hid hq
  clear hl
  unfold wv
  refine enter fun u => ?_
  go_enter Tryd.func31, Tryd.ntmps31
  go_wp2_with (first | ((with_reducible apply list_box); exact rfl; intro _ _) | ((with_reducible apply list_alloc); exact zeroW; intro _ _))
  rename_i g2 u2 g4 u4 g7 u7 _ _
  clear hq
  go_loopw [13] (ShRel a z w g2 g4 g7) (fun i _ => 8 - (intOf i).toNat)
  case atStart =>
    have e : shN a z % B ^ 0 = 0 := by simp [Nat.mod_one]
    have HX : ∃ u : KW w [⟨g7, cells 8 (shN a z % B ^ 0), 24⟩, ⟨g4, cells 8 0, 24⟩, ⟨g2, cells 8 a, 24⟩], u7.w = u.w := by rw [e]; exact ⟨u7, rfl⟩
    obtain ⟨u', hu'⟩ := HX
    exact ⟨0, u', rfl, by decide, hu'⟩
  case round =>
    clear u2 u4 u7
    obtain ⟨k, u, rfl, hk, rfl⟩ := hrel
    by_cases hk8 : k < 8
    · obtain ⟨x1, hx1⟩ : ∃ x, wz a ((k : Int) - q) = x := ⟨_, rfl⟩
      obtain ⟨x2, hx2⟩ : ∃ x, wz a ((k : Int) - q - 1) = x := ⟨_, rfl⟩
      have F1 := fun w => wordAt_any a ((k : Int) - q) (by omega) (by omega) w
      have F2 := fun w => wordAt_any a ((k : Int) - q - 1) (by omega) (by omega) w
      rw [hx1] at F1
      rw [hx2] at F2
      have HW : Hid (wd (shN a z) k = (x1 * 2 ^ l) % 2 ^ 64 ||| x2 / 2 ^ (64 - l)) := Lib.hid (by
        have := HQ.out
        subst this
        exact sh_word ha.out z hk8 HL.out hx1 hx2)
      obtain ⟨x, hx⟩ : ∃ x, wd (shN a z) k = x := ⟨_, rfl⟩
      have hxb : x < B := by rw [← hx]; exact wd_lt _ _
      have HV : Hid (bits .or .u64 (IntKind.u64.wrap ((x1 : Int) * 2 ^ l)) ((x2 : Int) / 2 ^ (64 - l)) = (x : Int)) := Lib.hid (by
        rw [or_join x1 x2 l (by rw [← hx1]; exact wz_lt _ _) (by rw [← hx2]; exact wz_lt _ _), ← HW.out, hx])
      have HXB := Lib.hid hxb
      have HX := Lib.hid hx
      clear hx hxb HW
      have HF1 := Lib.hid F1
      have HF2 := Lib.hid F2
      clear F1 F2 hx1 hx2
      have hk8i : (k : Int) < 8 := by omega
      have hk0i : (0 : Int) ≤ k := by omega
      have hl64i : (l : Int) < 64 := by omega
      have hl0i : (0 : Int) ≤ l := by omega
      have hw1 : IntKind.i64.wrap ((k : Int) - q) = (k : Int) - q := by rw [IntKind.wrap_i64]; omega
      have hw2 : IntKind.i64.wrap ((k : Int) - q - 1) = (k : Int) - q - 1 := by rw [IntKind.wrap_i64]; omega
      have hw3 : IntKind.i64.wrap (64 - (l : Int)) = 64 - (l : Int) := by rw [IntKind.wrap_i64]; omega
      go_wp2_with (fail)
      refine region_tail 19 (by kernel_rfl) (by kernel_rfl) fun _ => ?_
      simp only [List.take_succ_cons, List.take_zero, List.drop_succ_cons, List.drop_zero]
      repeat (go_big_quiet_step (first | (with_reducible exact call HF1.out _) | (with_reducible exact call HF2.out _)))
      refine wpQuiet_nil ?_
      rintro _ ⟨u', rfl⟩
      rw [HV.out]
      obtain ⟨u3, hu3⟩ := u'.ex_put (j := k) (v := .int .u64 (x : Nat)) (c' := cells 8 (shN a z % B ^ (k + 1))) (by rw [cells_set HXB.out, ← HX.out, part_step])
      have HU := Lib.hid hu3
      clear hu3 hw1 hw2 hw3
      go_wp2_with (fail)
      go_roundw
      case rel => exact ⟨k + 1, u3, by go_num, by omega, HU.out⟩
      case measure => simp [intOf]; omega
    · obtain rfl : k = 8 := by omega
      have HE : Hid (shN a z % B ^ 8 = shN a z) := Lib.hid (Nat.mod_eq_of_lt (shN_lt a z))
      go_wp2_with (first | ((with_reducible apply lst_load); exact rfl; infer_instance; exact rowW; exact cells_size _ _) | ((with_reducible apply lst_store); exact rfl; exact rfl; infer_instance; exact rowW; exact cells_size _ _; exact cells_size _ _; exact cells_one _ _; intro _))
      refine body_cell Tryd.results31 rfl rowW (cells_size _ _) ⟨?_, KW.below _⟩
      rw [HE.out]
end Go.Proofs.YtiklebonkpjlpaaDoor.WideW
