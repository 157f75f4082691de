/-
  package quot: division by a word, and what it is made of: contracts over the translation.
-/
import Derived.Test.YtiklebonkpjlpaaDoorWordMuls
import Derived.Test.YtiklebonkpjlpaaDoorWide3
import Derived.Test.YtiklebonkpjlpaaDoorWide5
import Derived.Test.YtiklebonkpjlpaaDoorQuotMath
namespace Go.Proofs.YtiklebonkpjlpaaDoor.QuotW
open Go.RowKit
open DigM WideM WideV KM DigW WideW QuotM
/-- how many words a has -/
def wn (a : Nat) : Nat := (bl a + 63) / 64
theorem bl_le {a : Nat} (ha : a < M) : bl a ≤ 512 := by
  obtain ⟨e, he⟩ : ∃ e : Nat, e = 512 := ⟨_, rfl⟩
  have h := (bl_BL a).2
  rw [M_two e he] at ha
  apply Nat.le_of_not_lt; intro hc
  have h1 := h (by omega)
  have h2 : 2 ^ e ≤ 2 ^ (bl a - 1) := Nat.pow_le_pow_right (by decide) (by omega)
  omega
theorem wn_le {a : Nat} (ha : a < M) : wn a ≤ 8 := by have := bl_le ha; unfold wn; omega
theorem lt_wn (a : Nat) : a < B ^ wn a := by
  have h := (bl_BL a).1
  rw [Bp_two]
  exact Nat.lt_of_lt_of_le h (Nat.pow_le_pow_right (by decide) (by unfold wn; omega))
theorem wn_small {a : Nat} (h : wn a ≤ 1) : a < B := by
  have h1 := lt_wn a
  have h2 : B ^ wn a ≤ B ^ 1 := Nat.pow_le_pow_right B_pos h
  rw [Nat.pow_one] at h2; omega
theorem wn_big {a : Nat} (h : 1 < wn a) : B ≤ a := by
  have h1 := (bl_BL a).2 (by unfold wn at h; omega)
  rw [B_two]
  exact Nat.le_trans (Nat.pow_le_pow_right (by decide) (by unfold wn at h; omega)) h1
theorem wd_self {a : Nat} (h : a < B) : wd a 0 = a := by unfold wd; simp [Nat.mod_eq_of_lt h]
theorem wordsOf_any (a : Nat) (ha : Hid (a < M)) (w : World) : Calls Tryd.prog 22 #[wv a] w (Ret (.int .i64 (wn a : Nat)) w) := by
  have hle := bl_le ha.out
  refine enter fun u => ?_
  go_enter Tryd.func22, Tryd.ntmps22
  go_wp2_with (first | ((with_reducible apply list_box); exact rfl; intro _ _) | ((with_reducible apply lst_load); exact rfl; infer_instance; exact rowW; exact cells_size _ _))
  refine (wlen8_any a ha _).mono ?_
  rintro e w' ⟨rfl, hb⟩
  go_wp2_with (fail)
  go_ret
  exact ⟨ret_int (by unfold wn; omega), (KW.later _ hb).below⟩
/-! ### division by a word -/
theorem div_fix (r x y : Nat) (hr : r < y) (hx : x < B) (hy : y < B) : ∃ q o : Nat, Hid (q < B ∧ o < y ∧ q * y + o = r * B + x) ∧
    ∀ w, Calls Tryd.prog 42 #[.int .u64 r, .int .u64 x, .int .u64 y] w (fun e w' => e = .returned (.tuple #[.int .u64 q, .int .u64 o, .bool true]) ∧ ∃ n, w' = w.drewN n) := by
  rw [B_eq] at *
  refine ⟨(r * 18446744073709551616 + x) / y, (r * 18446744073709551616 + x) % y, Lib.hid ⟨?_, Nat.mod_lt _ (by omega), ?_⟩, fun w => ?_⟩
  · apply Nat.div_lt_of_lt_mul
    have := Nat.mul_le_mul_right 18446744073709551616 (show r + 1 ≤ y from hr)
    omega
  · rw [Nat.mul_comm]; exact Nat.div_add_mod _ _
  · refine (div_yes r x y w hr (Lib.hid hx) (Lib.hid hy)).mono ?_
    rintro e w' ⟨q, o, rfl, hs, n, rfl⟩
    obtain ⟨h1, h2, h3⟩ := hs.out
    have e1 : (r * 18446744073709551616 + x) / y = q := by
      rw [← h3, Nat.mul_comm q y, Nat.mul_add_div (by omega), Nat.div_eq_of_lt h2]; omega
    have e2 : (r * 18446744073709551616 + x) % y = o := by
      rw [← h3, Nat.mul_comm q y, Nat.mul_add_mod, Nat.mod_eq_of_lt h2]
    rw [e1, e2]
    exact ⟨rfl, n, rfl⟩
theorem drewN_go {W : World} {L : List Ent} (u : KW W L) (n : Nat) : ∃ u' : KW W L, u.w.drewN n = u'.w := by
  exact u.go (below_drewN (Below.refl _ _) n)
def WoRel (a y : Nat) (w : World) (g2 g4 : Nat) (r i : Value) (wr : World) : Prop :=
  ∃ (m n s : Nat) (u : KW w [⟨g4, cells 8 s, 24⟩, ⟨g2, cells 8 a, 24⟩]), i = .int .i64 ((m : Int) - 1) ∧ m ≤ 8 ∧ r = .int .u64 n ∧ wr = u.w ∧ Hid (WordQ a y m s n)
set_option maxHeartbeats 800000 in
theorem overWord_any (a y : Nat) (ha : Hid (a < M)) (hy : Hid (0 < y ∧ y < B)) (w : World) : Calls Tryd.prog 24 #[wv a, .int .u64 y] w (Ret (.tuple #[wv (a / y), .int .u64 (a % y : Nat)]) w) := by
  unfold wv
  refine enter fun u => ?_
  go_enter Tryd.func24, Tryd.ntmps24
  go_wp2_with (first | ((with_reducible apply list_box); exact rfl; intro _ _) | ((with_reducible apply list_alloc); exact zeroW; intro _ _))
  rename_i g2 u2 g4 u4 _ _
  go_loopw [5, 6] (WoRel a y w g2 g4) (fun _ i _ => (intOf i + 1).toNat)
  case atStart => exact ⟨8, 0, 0, u4, rfl, by decide, rfl, rfl, Lib.hid (WordQ.start ha.out)⟩
  case round =>
    obtain ⟨m, n, s, u, rfl, hm, rfl, rfl, hS⟩ := hrel
    clear u2 u4
    cases m with
    | zero =>
      have HE := Lib.hid hS.out.over
      go_wp2_with (first | ((with_reducible apply lst_load); exact rfl; infer_instance; exact rowW; exact cells_size _ _) | ((with_reducible apply lst_store); exact rfl; exact rfl; infer_instance; exact rowW; exact cells_size _ _; exact cells_size _ _; exact cells_one _ _; intro _))
      refine body_cell_tmp Tryd.results24 rfl rfl rowW (cells_size _ _) ⟨?_, KW.below _⟩
      rw [HE.out.1, HE.out.2]
      rfl
    | succ k =>
      have ek : ((k + 1 : Nat) : Int) - 1 = k := by omega
      rw [ek]
      clear ek
      have hk8 : k < 8 := by omega
      obtain ⟨x, hx⟩ : ∃ x, Hid (wd a k = x) := ⟨_, Lib.hid rfl⟩
      have hxb : x < B := by rw [← hx.out]; exact wd_lt a k
      have hc1 := cells_at hk8 hx.out
      obtain ⟨q, o, hq, hF⟩ := div_fix n x y (hS.out.lt hy.out.1) hxb hy.out.2
      have hqb : q < B := hq.out.1
      have HN : Hid (WordQ a y k (put s k q) o) := Lib.hid (hS.out.next hy.out.1 hq.out.2.1 (by rw [hx.out]; exact hq.out.2.2))
      have hk8i : (k : Int) < 8 := by omega
      have hk0i : (0 : Int) ≤ k := by omega
      clear hxb
      go_wp2_with (fail)
      refine (hF _).mono ?_
      rintro e w' ⟨rfl, n', rfl⟩
      obtain ⟨u1, hu1⟩ := drewN_go u n'
      rw [hu1]
      obtain ⟨u3, hu3⟩ := u1.ex_put (j := k) (v := .int .u64 (q : Nat)) (cells_set hqb)
      have HU := Lib.hid hu3
      clear hu3 hqb
      go_wp2_with (fail)
      go_roundw
      case rel => exact ⟨k, o, _, u3, by go_num, by omega, rfl, HU.out, HN⟩
      case measure => simp [intOf]
end Go.Proofs.YtiklebonkpjlpaaDoor.QuotW
