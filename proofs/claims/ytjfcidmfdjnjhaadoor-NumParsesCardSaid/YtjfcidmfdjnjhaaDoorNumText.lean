/-
  num's Digits, and the document's own Text of layer 1: contracts over the translation.
-/
import Derived.Test.YtjfcidmfdjnjhaaDoorNumRef
namespace Go.Proofs.YtjfcidmfdjnjhaaDoor.NumW
open Go.RowKit
open NumM
open Go.Lib (decDigits itoa nDigits)

theorem nDig_le (u : Nat) (h : u < 10 ^ 19) : nDigits u ≤ 19 := by
  apply Nat.le_of_not_lt; intro hc
  have h2 : ∀ k u, k < nDigits u → 10 ^ k ≤ u ∨ k = 0 := by
    intro k
    induction k with
    | zero => intro u _; exact Or.inr rfl
    | succ k ih =>
      intro u hk
      by_cases h10 : u < 10
      · rw [Go.Lib.nDigits_small h10] at hk; omega
      · rw [Go.Lib.nDigits_big h10] at hk
        rcases ih (u / 10) (by omega) with h | h
        · left; rw [Nat.pow_succ]; omega
        · left; subst h; rw [Nat.pow_succ]; omega
  rcases h2 19 u hc with h3 | h3 <;> omega
theorem natAbs_tdiv (m : Int) : (m.tdiv 10).natAbs = m.natAbs / 10 := by
  rw [Int.natAbs_tdiv]; rfl
def DRel (n : Int) (a b : Value) : Prop := ∃ m c : Int, a = .int .i64 m ∧ b = .int .i64 c ∧ 1 ≤ c ∧ c + (nDigits m.natAbs : Int) = nDigits n.natAbs + 1 ∧ -9223372036854775808 ≤ m ∧ m ≤ 9223372036854775807
set_option maxHeartbeats 400000 in
theorem digits_any (n : Int) (w : World) (h1 : -9223372036854775808 ≤ n) (h2 : n ≤ 9223372036854775807) :
    Calls Tryd.prog 15 #[.int .i64 n] w fun e w' => e = .returned (.int .i64 (nDigits n.natAbs)) ∧ w = w' := by
  have hn := nDig_le n.natAbs (by omega)
  have HN := Lib.hid hn
  clear hn
  go_enter Tryd.func15, Tryd.ntmps15
  go_wp2
  go_loop [0, 3] (DRel n) (fun a _ => (intOf a).natAbs)
  case atStart => exact ⟨n, 1, rfl, rfl, by omega, by omega, h1, h2⟩
  case round =>
    obtain ⟨m, c, rfl, rfl, hc, hsum, hm1, hm2⟩ := hrel
    have hpos := Go.Lib.nDigits_pos m.natAbs
    have hn := HN.out
    have hc20 : c ≤ 19 := by omega
    have HS := Lib.hid hsum
    clear hsum hn
    by_cases hgt : 9 < m
    · have hs := Lib.hid (Go.Lib.nDigits_big (u := m.natAbs) (by omega))
      have hab : Hid ((m / 10).natAbs = m.natAbs / 10) := Lib.hid (by omega)
      go_wp2
      go_round
      case rel => exact ⟨m / 10, c + 1, rfl, rfl, by omega, by rw [hab.out]; have := HS.out; have := hs.out; omega, by omega, by omega⟩
      case measure => simp [intOf]; omega
    · by_cases hlt : m < -9
      · have hs := Lib.hid (Go.Lib.nDigits_big (u := m.natAbs) (by omega))
        have hab := Lib.hid (natAbs_tdiv m)
        have hb : -9223372036854775808 ≤ m.tdiv 10 ∧ m.tdiv 10 ≤ 9223372036854775807 := by have := natAbs_tdiv m; omega
        obtain ⟨hb1, hb2⟩ := hb
        go_wp2
        go_round
        case rel => exact ⟨m.tdiv 10, c + 1, rfl, rfl, by omega, by rw [hab.out]; have := HS.out; have := hs.out; omega, hb1, hb2⟩
        case measure => simp only [intOf]; rw [hab.out]; omega
      · have hs := Lib.hid (Go.Lib.nDigits_small (u := m.natAbs) (by omega))
        go_wp2
        go_ret
        exact ⟨ret_int (by have := HS.out; have := hs.out; omega), rfl⟩

theorem cut10 (k : Nat) (h : k < 10) : (ByteArray.mk #[48, 49, 50, 51, 52, 53, 54, 55, 56, 57]).extract k (k + 1) = ⟨#[UInt8.ofNat (48 + k)]⟩ := by
  revert k; decide +kernel
theorem app10 (k : Nat) (h : k < 10) (s : List UInt8) : (ByteArray.mk #[48, 49, 50, 51, 52, 53, 54, 55, 56, 57]).extract k (k + 1) ++ ⟨s.toArray⟩ = ⟨(UInt8.ofNat (48 + k) :: s).toArray⟩ := by
  rw [cut10 k h]
  apply ByteArray.ext
  rw [ByteArray.data_append]
  simp
theorem neg10 (k : Nat) (h : k < 10) (s : List UInt8) : (ByteArray.mk #[45]) ++ (ByteArray.mk #[48, 49, 50, 51, 52, 53, 54, 55, 56, 57]).extract k (k + 1) ++ ⟨s.toArray⟩ = ⟨(45 :: UInt8.ofNat (48 + k) :: s).toArray⟩ := by
  rw [cut10 k h]
  apply ByteArray.ext
  rw [ByteArray.data_append, ByteArray.data_append]
  simp
theorem dec_step (n m : Nat) (s : List UInt8) (h : 10 ≤ m) (hd : decDigits n = decDigits m ++ s) : decDigits n = decDigits (m / 10) ++ (UInt8.ofNat (48 + m % 10) :: s) := by
  rw [hd, decDigits_big (by omega), List.append_assoc]; rfl
theorem dec_last (n m : Nat) (s : List UInt8) (h : m < 10) (hd : decDigits n = decDigits m ++ s) : decDigits n = UInt8.ofNat (48 + m) :: s := by
  rw [hd, decDigits_small h]; rfl
theorem dec_len (n m : Nat) (s : List UInt8) (hn : n < 10 ^ 19) (hd : decDigits n = decDigits m ++ s) : s.length ≤ 19 := by
  have h1 := len_dec n
  have h2 := nDig_le n hn
  rw [hd, List.length_append] at h1; omega
set_option maxHeartbeats 400000 in
theorem refText_pos (n : Nat) (w : World) (h2 : n ≤ 9223372036854775807) :
    Calls Tryd.prog 14 #[.int .i64 n] w fun e w' => e = .returned (.string ⟨(decDigits n).toArray⟩) ∧ w = w' := by
  go_enter Tryd.func14, Tryd.ntmps14
  go_wp2
  go_loop [0, 6] (fun a b => ∃ (m : Nat) (s : List UInt8), a = .int .i64 m ∧ b = .string ⟨s.toArray⟩ ∧ m ≤ 9223372036854775807 ∧ Hid (decDigits n = decDigits m ++ s)) (fun a _ => (intOf a).natAbs)
  case atStart => exact ⟨n, [], rfl, rfl, h2, Lib.hid (by simp)⟩
  case round =>
    obtain ⟨m, s, rfl, rfl, hm, HD⟩ := hrel
    have hl := dec_len n m s (by omega) HD.out
    by_cases hgt : 10 ≤ m
    · go_wp2
      go_round
      case rel => exact ⟨m / 10, UInt8.ofNat (48 + m % 10) :: s, by go_num, vstr (app10 (m % 10) (by omega) s), by omega, Lib.hid (dec_step n m s hgt HD.out)⟩
      case measure => simp [intOf]; omega
    · have hlt : m < 10 := by omega
      have HE := Lib.hid (dec_last n m s hlt HD.out)
      go_wp2
      go_ret
      exact ⟨ret_one (vstr (by rw [HE.out]; exact app10 m hlt s)), rfl⟩
theorem neg_div (m : Nat) : (-(m : Int)).tdiv 10 = -((m : Int) / 10) := by
  rw [Int.neg_tdiv, Int.tdiv_eq_ediv_of_nonneg (by omega)]
theorem neg_mod (m : Nat) : (-(m : Int)).tmod 10 = -((m : Int) % 10) := by
  rw [Int.neg_tmod, Int.tmod_eq_emod_of_nonneg (by omega)]
set_option maxHeartbeats 400000 in
theorem refText_neg (n : Nat) (w : World) (h1 : 1 ≤ n) (h2 : n ≤ 9223372036854775808) :
    Calls Tryd.prog 14 #[.int .i64 (-(n : Int))] w fun e w' => e = .returned (.string ⟨(45 :: decDigits n).toArray⟩) ∧ w = w' := by
  go_enter Tryd.func14, Tryd.ntmps14
  go_wp2
  go_loop [0, 4] (fun a b => ∃ (m : Nat) (s : List UInt8), a = .int .i64 (-(m : Int)) ∧ b = .string ⟨s.toArray⟩ ∧ 1 ≤ m ∧ m ≤ 9223372036854775808 ∧ Hid (decDigits n = decDigits m ++ s)) (fun a _ => (intOf a).natAbs)
  case atStart => exact ⟨n, [], rfl, rfl, h1, h2, Lib.hid (by simp)⟩
  case round =>
    obtain ⟨m, s, rfl, rfl, hm0, hm, HD⟩ := hrel
    have hl := dec_len n m s (by omega) HD.out
    have e1 := neg_div m
    have e2 := neg_mod m
    by_cases hgt : 10 ≤ m
    · go_wp2
      go_round
      case rel => exact ⟨m / 10, UInt8.ofNat (48 + m % 10) :: s, vint (by omega), vstr (by rw [Nat.add_comm]; exact app10 (m % 10) (by omega) s), by omega, by omega, Lib.hid (dec_step n m s hgt HD.out)⟩
      case measure => simp [intOf]; omega
    · have hlt : m < 10 := by omega
      have HE := Lib.hid (dec_last n m s hlt HD.out)
      go_wp2
      go_ret
      exact ⟨ret_one (vstr (by rw [HE.out, Nat.add_comm 1 m]; exact neg10 m hlt s)), rfl⟩
theorem refText_any (n : Int) (w : World) (h1 : -9223372036854775808 ≤ n) (h2 : n ≤ 9223372036854775807) :
    Calls Tryd.prog 14 #[.int .i64 n] w fun e w' => e = .returned (.string ⟨(itoa n).toArray⟩) ∧ w = w' := by
  unfold itoa
  by_cases h : n < 0
  · rw [if_pos h]
    obtain ⟨k, hk⟩ : ∃ k : Nat, n = -(k : Int) := ⟨n.natAbs, by omega⟩
    subst hk
    have e : (-(k : Int)).natAbs = k := by omega
    rw [e]
    exact refText_neg k w (by omega) (by omega)
  · rw [if_neg h]
    obtain ⟨k, hk⟩ : ∃ k : Nat, n = (k : Int) := ⟨n.toNat, by omega⟩
    subst hk
    rw [Int.toNat_natCast]
    exact refText_pos k w (by omega)
end Go.Proofs.YtjfcidmfdjnjhaaDoor.NumW
