/-
  package quot: divisors of words, a guess: contracts over the translation.
-/
import Derived.Test.YtiklebonkpjlpaaDoorQuot
namespace Go.Proofs.YtiklebonkpjlpaaDoor.QuotW
open Go.RowKit
open DigM WideM WideV KM DigW WideW QuotM
def GRel (x y : Nat) (w : World) (a b : Value) (wr : World) : Prop :=
  ∃ (n m : Nat) (u : KW w []), a = .int .u64 n ∧ b = .int .u64 m ∧ wr = u.w ∧ Hid (n < B ∧ m < B ∧ Nat.gcd n m = Nat.gcd x y)
set_option maxHeartbeats 800000 in
theorem gcdWords_any (x y : Nat) (hx : x < B) (hy : y < B) (w : World) : Calls Tryd.prog 30 #[.int .u64 x, .int .u64 y] w (Ret (.int .u64 (Nat.gcd x y : Nat)) w) := by
  have H0 : Hid (x < B ∧ y < B) := Lib.hid ⟨hx, hy⟩
  clear hx hy
  refine enter fun u => ?_
  go_enter Tryd.func30, Tryd.ntmps30
  go_wp2_with (fail)
  go_loopw [0, 1] (GRel x y w) (fun _ b _ => (intOf b).toNat)
  case atStart => exact ⟨x, y, u, rfl, rfl, rfl, Lib.hid ⟨H0.out.1, H0.out.2, rfl⟩⟩
  case round =>
    clear u
    obtain ⟨n, m, u, rfl, rfl, rfl, hG⟩ := hrel
    by_cases h0 : m = 0
    · subst h0
      have HE : Hid (n = Nat.gcd x y) := Lib.hid (by have := hG.out.2.2; rw [Nat.gcd_zero_right] at this; exact this)
      go_wp2_with (fail)
      go_ret
      exact ⟨ret_int (by rw [← HE.out]), KW.below _⟩
    · have hq := bn_yes (show ¬ (m : Int) = 0 from by omega)
      have hm0 : ¬ (m : Int) = 0 := by omega
      have hlt : n % m < m := Nat.mod_lt _ (by omega)
      have HN : Hid (m < B ∧ n % m < B ∧ Nat.gcd m (n % m) = Nat.gcd x y) := Lib.hid ⟨hG.out.2.1, by have := hG.out.2.1; omega, by rw [← hG.out.2.2, Nat.gcd_comm n m, Nat.gcd_rec m n, Nat.gcd_comm]⟩
      have hmod : (n : Int).tmod m = ((n % m : Nat) : Int) := by rw [Int.tmod_eq_emod_of_nonneg (by omega)]; rfl
      have hnb : (n : Int) ≤ 18446744073709551615 := by have := hG.out.1; rw [B_eq] at this; omega
      have hmb : (m : Int) ≤ 18446744073709551615 := by have := hG.out.2.1; rw [B_eq] at this; omega
      clear h0
      go_wp2_with (fail)
      refine region (by kernel_rfl) (by kernel_rfl) fun _ => ?_
      repeat (go_big_quiet_step (fail))
      refine wpQuiet_nil ?_
      rintro _ ⟨u', rfl⟩
      go_wp2_with (fail)
      go_roundw
      case rel => exact ⟨m, n % m, u', rfl, vint (by first | exact hmod | rfl | omega), rfl, HN⟩
      case measure => simp [intOf]; omega
def gtB (a b h l : Nat) : Bool := decide (h * B + l < a * b)
theorem moreThan_any (a b h l : Nat) (ha : a < B) (hb : b < B) (hl : l < B) (w : World) : Calls Tryd.prog 52 #[.int .u64 a, .int .u64 b, .int .u64 h, .int .u64 l] w (fun e w' => e = .returned (.bool (gtB a b h l)) ∧ w = w') := by
  obtain ⟨h0, l0, H0, F0⟩ := mul_fix a b ha hb
  rcases Nat.lt_trichotomy h0 h with hc | hc | hc
  · have HE : Hid (gtB a b h l = false) := Lib.hid (by
      unfold gtB; rw [← H0.out.2.2]
      have := Nat.mul_le_mul_right B (show h0 + 1 ≤ h from hc)
      have := H0.out.2.1
      rw [Nat.add_mul] at *
      simp; omega)
    have hi1 : decide (h < h0) = false := by simp; omega
    have hi2 := bq_no (show ¬ (h0 : Int) = h from by omega)
    clear ha hb hl hc
    go_enter Tryd.func52, Tryd.ntmps52
    go_wp2_with (fail)
    refine (F0 _).mono ?_
    rintro e w' ⟨rfl, rfl⟩
    go_wp2_with (fail)
    go_ret
    exact ⟨ret_bool (by rw [HE.out]), rfl⟩
  · subst hc
    have HE : Hid (gtB a b h0 l = decide (l < l0)) := Lib.hid (by
      unfold gtB; rw [← H0.out.2.2]
      exact decide_eq_decide.2 (by omega))
    clear ha hb hl
    go_enter Tryd.func52, Tryd.ntmps52
    go_wp2_with (fail)
    refine (F0 _).mono ?_
    rintro e w' ⟨rfl, rfl⟩
    go_wp2_with (fail)
    go_ret
    exact ⟨ret_bool (by rw [HE.out]), rfl⟩
  · have HE : Hid (gtB a b h l = true) := Lib.hid (by
      unfold gtB; rw [← H0.out.2.2]
      have := Nat.mul_le_mul_right B (show h + 1 ≤ h0 from hc)
      rw [Nat.add_mul] at this
      exact decide_eq_true (by omega))
    have hi1 : decide (h < h0) = true := by simp; omega
    clear ha hb hl hc
    go_enter Tryd.func52, Tryd.ntmps52
    go_wp2_with (fail)
    refine (F0 _).mono ?_
    rintro e w' ⟨rfl, rfl⟩
    go_wp2_with (fail)
    go_ret
    exact ⟨ret_bool (by rw [HE.out]), rfl⟩
/-- a guess: what it answers, and that it only reads -/
def Guesses (hi mid low by' next : Nat) : Prop := ∃ g : Nat, Hid (GuessOf hi mid low by' next g) ∧
  ∀ w, Calls Tryd.prog 39 #[.int .u64 hi, .int .u64 mid, .int .u64 low, .int .u64 by', .int .u64 next] w (fun e w' => e = .returned (.int .u64 (g : Nat)) ∧ ∃ n, w' = w.drewN n)
set_option maxHeartbeats 800000 in
theorem guess_low (hi mid low by' next : Nat) (hlt : hi < by') (hm : mid < B) (hl : low < B) (hb : by' < B) (hn : next < B) : Guesses hi mid low by' next := by
  obtain ⟨q, o, HQ, F⟩ := div_fix hi mid by' hlt hm hb
  have FM := fun w => moreThan_any q next o low HQ.out.1 hn hl w
  have HB := Lib.hid hb
  clear hm hl hb hn hlt
  by_cases ht : gtB q next o low = true
  · have HT := Lib.hid ht
    rw [ht] at FM
    have hq1 : 0 < q := by
      apply Nat.pos_of_ne_zero; intro h0
      have := of_decide_eq_true ht
      rw [h0, Nat.zero_mul] at this; omega
    have hqb : (q : Int) ≤ 18446744073709551615 := by have := HQ.out.1; rw [B_eq] at this; omega
    obtain ⟨g, rfl⟩ : ∃ g, q = g + 1 := ⟨q - 1, by omega⟩
    refine ⟨g, Lib.hid ⟨g + 1, o, HQ.out.1, HQ.out.2.2, Or.inl HQ.out.2.1, Or.inr ⟨of_decide_eq_true HT.out, rfl⟩⟩, fun w => ?_⟩
    clear ht
    go_enter Tryd.func39, Tryd.ntmps39
    go_wp2_with (fail)
    refine (F _).mono ?_
    rintro e w' ⟨rfl, n, rfl⟩
    go_wp2_with (fail)
    refine (FM _).mono ?_
    rintro e w' ⟨rfl, rfl⟩
    go_wp2_with (fail)
    go_ret
    exact ⟨ret_int (by omega), n, rfl⟩
  · have hf : gtB q next o low = false := by simpa using ht
    have HT := Lib.hid ht
    rw [hf] at FM
    refine ⟨q, Lib.hid ⟨q, o, HQ.out.1, HQ.out.2.2, Or.inl HQ.out.2.1, Or.inl ⟨?_, rfl⟩⟩, fun w => ?_⟩
    · have := HT.out
      unfold gtB at this
      rw [decide_eq_true_eq] at this; omega
    clear ht hf
    go_enter Tryd.func39, Tryd.ntmps39
    go_wp2_with (fail)
    refine (F _).mono ?_
    rintro e w' ⟨rfl, n, rfl⟩
    go_wp2_with (fail)
    refine (FM _).mono ?_
    rintro e w' ⟨rfl, rfl⟩
    go_wp2_with (fail)
    go_ret
    exact ⟨rfl, n, rfl⟩
theorem div_no' (a b : Nat) (w : World) : Calls Tryd.prog 42 #[.int .u64 a, .int .u64 b, .int .u64 a] w (fun e w' => e = .returned (.tuple #[.int .u64 0, .int .u64 0, .bool false]) ∧ w = w') := div_no a b a w (Nat.le_refl _)
set_option maxHeartbeats 800000 in
theorem guess_high (hi mid low next : Nat) (hm : mid < B) (hl : low < B) (hb : hi < B) (hn : next < B) : Guesses hi mid low hi next := by
  obtain ⟨r, c, HR, FA⟩ := add_fix mid hi 0 hm hb
  have F := div_no' hi mid
  have HT18 : Hid (18446744073709551615 + 1 = B) := Lib.hid (by rw [B_eq])
  have h18 : (18446744073709551615 : Nat) < B := by have := HT18.out; omega
  have hr := HR.out.1
  have hsum : 18446744073709551615 * hi + (r + B * c) = hi * B + mid := by
    have h := HR.out.2.2
    rw [show cn 0 = 0 from rfl] at h
    have e : hi * B = hi * 18446744073709551615 + hi := by rw [← HT18.out, Nat.mul_add, Nat.mul_one]
    rw [e, Nat.mul_comm]; omega
  have HSUM := Lib.hid hsum
  have H18 := Lib.hid h18
  clear hsum
  by_cases hc : c = 0
  · subst hc
    have FM : ∀ w, Calls Tryd.prog 52 #[.int .u64 18446744073709551615, .int .u64 next, .int .u64 r, .int .u64 low] w (fun e w' => e = .returned (.bool (gtB 18446744073709551615 next r low)) ∧ w = w') := fun w => moreThan_any 18446744073709551615 next r low h18 hn hl w
    clear hm hl hb hn h18
    by_cases ht : gtB 18446744073709551615 next r low = true
    · have HT := Lib.hid ht
      rw [ht] at FM
      refine ⟨18446744073709551614, Lib.hid ⟨18446744073709551615, r, H18.out, by have := HSUM.out; omega, Or.inr HT18.out, Or.inr ⟨of_decide_eq_true HT.out, rfl⟩⟩, fun w => ?_⟩
      clear ht
      go_enter Tryd.func39, Tryd.ntmps39
      go_wp2_with (fail)
      refine (F _).mono ?_
      rintro e w' ⟨rfl, rfl⟩
      go_wp2_with (fail)
      refine (FA _).mono ?_
      rintro e w' ⟨rfl, rfl⟩
      go_wp2_with (fail)
      refine (FM _).mono ?_
      rintro e w' ⟨rfl, rfl⟩
      go_wp2_with (fail)
      go_ret
      exact ⟨rfl, 0, rfl⟩
    · have hf : gtB 18446744073709551615 next r low = false := by simpa using ht
      have HT := Lib.hid ht
      rw [hf] at FM
      refine ⟨18446744073709551615, Lib.hid ⟨18446744073709551615, r, H18.out, by have := HSUM.out; omega, Or.inr HT18.out, Or.inl ⟨?_, rfl⟩⟩, fun w => ?_⟩
      · have := HT.out
        unfold gtB at this
        rw [decide_eq_true_eq] at this; omega
      clear ht hf
      go_enter Tryd.func39, Tryd.ntmps39
      go_wp2_with (fail)
      refine (F _).mono ?_
      rintro e w' ⟨rfl, rfl⟩
      go_wp2_with (fail)
      refine (FA _).mono ?_
      rintro e w' ⟨rfl, rfl⟩
      go_wp2_with (fail)
      refine (FM _).mono ?_
      rintro e w' ⟨rfl, rfl⟩
      go_wp2_with (fail)
      go_ret
      exact ⟨rfl, 0, rfl⟩
  · obtain rfl : c = 1 := by have := HR.out.2.1; omega
    refine ⟨18446744073709551615, Lib.hid ⟨18446744073709551615, r + B, H18.out, by have := HSUM.out; omega, Or.inr HT18.out, Or.inl ⟨?_, rfl⟩⟩, fun w => ?_⟩
    · have h1 := Nat.mul_le_mul (Nat.le_of_lt H18.out) (Nat.le_of_lt hn)
      have h2 := Nat.mul_le_mul_right B (show B ≤ r + B by omega)
      omega
    clear hm hl hb hn h18 hc hr
    go_enter Tryd.func39, Tryd.ntmps39
    go_wp2_with (fail)
    refine (F _).mono ?_
    rintro e w' ⟨rfl, rfl⟩
    go_wp2_with (fail)
    refine (FA _).mono ?_
    rintro e w' ⟨rfl, rfl⟩
    go_wp2_with (fail)
    go_ret
    exact ⟨rfl, 0, rfl⟩
theorem guess_fix (hi mid low by' next : Nat) (hle : hi ≤ by') (hm : mid < B) (hl : low < B) (hb : by' < B) (hn : next < B) : Guesses hi mid low by' next := by
  rcases Nat.lt_or_ge hi by' with h | h
  · exact guess_low hi mid low by' next h hm hl hb hn
  · obtain rfl : hi = by' := by omega
    exact guess_high hi mid low next hm hl hb hn
end Go.Proofs.YtiklebonkpjlpaaDoor.QuotW
