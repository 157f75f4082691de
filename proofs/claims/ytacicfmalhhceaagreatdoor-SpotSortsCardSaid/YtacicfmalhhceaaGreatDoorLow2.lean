/-
  Texts of the layers below in one: Word WideMath WideV Wide Wide2 Wide3 Wide4 Wide5 WideRef WideRef2 WideArgs Div64Math Div WordLaws WordMuls.
-/
import Derived.Test.YtacicfmalhhceaaGreatDoorLow1
import Derived.Test.YtacicfmalhhceaaGreatDoorShelf
import Derived.Shelf.Spec.BitsCarry
import Derived.Laws.Externs
import Derived.Test.YtacicfmalhhceaaGreatDoorBase
import Derived.ChangeKeysEq
import Derived.Deep.RegionHeld3
import Derived.BigGuardPart
import Derived.Deep.DeepCutAuto
import Derived.Deep.CutBlock
import Derived.Deep.CutRange
/- What package word answers, but for Div: contracts over the translation. -/
namespace Go.Proofs.YtacicfmalhhceaaGreatDoor.DigW
open Go.RowKit
open DigM
def cn (c : Nat) : Nat := if c = 0 then 0 else 1
theorem add64 (x y c : Nat) (hc : c ≤ 1) (hx : x < 18446744073709551616) (hy : y < 18446744073709551616) : ∃ s o : Nat, Hid (s < 18446744073709551616 ∧ o ≤ 1 ∧ s + 18446744073709551616 * o = x + y + c) ∧
    ∀ w, (callFunc 154 #[.int .u64 x, .int .u64 y, .int .u64 c]).run Tryz.prog w = .ok (.value (.tuple #[.int .u64 s, .int .u64 o])) w := by
  refine ⟨(x + y + c) % 18446744073709551616, (x + y + c) / 18446744073709551616, Lib.hid (by omega), fun w => ?_⟩
  rw [run_callFunc_extern Tryz.func154 (by kernel_rfl) (by kernel_rfl) (by kernel_rfl) (e := add64Entry) (by kernel_rfl), run_add64 x y c (by omega) (by omega) (by omega) (by omega)]
  simp only [Result.andThen]
  congr 5 <;> omega
theorem sub64 (x y c : Nat) (hc : c ≤ 1) (hx : x < 18446744073709551616) (hy : y < 18446744073709551616) : ∃ s o : Nat, Hid (s < 18446744073709551616 ∧ o ≤ 1 ∧ s + y + c = x + 18446744073709551616 * o) ∧
    ∀ w, (callFunc 156 #[.int .u64 x, .int .u64 y, .int .u64 c]).run Tryz.prog w = .ok (.value (.tuple #[.int .u64 s, .int .u64 o])) w := by
  refine ⟨(x + 18446744073709551616 - y - c) % 18446744073709551616, if x < y + c then 1 else 0, Lib.hid (by split <;> omega), fun w => ?_⟩
  rw [run_callFunc_extern Tryz.func156 (by kernel_rfl) (by kernel_rfl) (by kernel_rfl) (e := sub64Entry) (by kernel_rfl), run_sub64 x y c hc]
  rfl
/-- a sum, and what is carried -/
def SumOf (a b c : Nat) (w : World) (e : Ending) (w' : World) : Prop :=
  ∃ s o : Nat, e = .returned (.tuple #[.int .u64 s, .int .u64 o]) ∧ Hid (s < 18446744073709551616 ∧ o ≤ 1 ∧ s + 18446744073709551616 * o = a + b + cn c) ∧ w = w'
def DifOf (a b c : Nat) (w : World) (e : Ending) (w' : World) : Prop :=
  ∃ s o : Nat, e = .returned (.tuple #[.int .u64 s, .int .u64 o]) ∧ Hid (s < 18446744073709551616 ∧ o ≤ 1 ∧ s + b + cn c = a + 18446744073709551616 * o) ∧ w = w'
theorem add_any (a b c : Nat) (w : World) (ha : Hid (a < 18446744073709551616)) (hb : Hid (b < 18446744073709551616)) :
    Calls Tryz.prog 128 #[.int .u64 a, .int .u64 b, .int .u64 c] w (SumOf a b c w) := by
  obtain ⟨s, o, hs, hr⟩ := add64 a b (cn c) (by unfold cn; split <;> decide) ha.out hb.out
  have hrun : ∀ w, (callFunc 154 #[.int .u64 a, .int .u64 b, .int .u64 (min (c : Int) 1)]).run Tryz.prog w = .ok (.value (.tuple #[.int .u64 s, .int .u64 o])) w := by
    intro w
    rw [show min (c : Int) 1 = ((cn c : Nat) : Int) by unfold cn; split <;> omega]
    exact hr w
  clear hr
  go_enter Tryz.func128, Tryz.ntmps128
  go_wp2_with (simp only [hrun])
  go_ret2
  exact ⟨s, o, rfl, hs, rfl⟩
theorem sub_any (a b c : Nat) (w : World) (ha : Hid (a < 18446744073709551616)) (hb : Hid (b < 18446744073709551616)) :
    Calls Tryz.prog 131 #[.int .u64 a, .int .u64 b, .int .u64 c] w (DifOf a b c w) := by
  obtain ⟨s, o, hs, hr⟩ := sub64 a b (cn c) (by unfold cn; split <;> decide) ha.out hb.out
  have hrun : ∀ w, (callFunc 156 #[.int .u64 a, .int .u64 b, .int .u64 (min (c : Int) 1)]).run Tryz.prog w = .ok (.value (.tuple #[.int .u64 s, .int .u64 o])) w := by
    intro w
    rw [show min (c : Int) 1 = ((cn c : Nat) : Int) by unfold cn; split <;> omega]
    exact hr w
  clear hr
  go_enter Tryz.func131, Tryz.ntmps131
  go_wp2_with (simp only [hrun])
  go_ret2
  exact ⟨s, o, rfl, hs, rfl⟩
def ProdOf (a b : Nat) (w : World) (e : Ending) (w' : World) : Prop :=
  ∃ h l : Nat, e = .returned (.tuple #[.int .u64 h, .int .u64 l]) ∧ Hid (h < 18446744073709551616 ∧ l < 18446744073709551616 ∧ h * 18446744073709551616 + l = a * b) ∧ w = w'
theorem mul_any (a b : Nat) (w : World) (ha : Hid (a < 18446744073709551616)) (hb : Hid (b < 18446744073709551616)) :
    Calls Tryz.prog 130 #[.int .u64 a, .int .u64 b] w (ProdOf a b w) := by
  have hlt : a * b / 18446744073709551616 < 18446744073709551616 := by
    have := Nat.mul_lt_mul_of_lt_of_le ha.out (Nat.le_of_lt hb.out) (by decide)
    omega
  have hd := Nat.div_add_mod (a * b) 18446744073709551616
  have hm := Nat.mod_lt (a * b) (show 0 < 18446744073709551616 by decide)
  have hF := Tryz.bits_Mul64 a b ha.out hb.out w
  generalize a * b / 18446744073709551616 = h at *
  generalize a * b % 18446744073709551616 = l at *
  have HH := Lib.hid (show h < 18446744073709551616 ∧ l < 18446744073709551616 ∧ h * 18446744073709551616 + l = a * b from ⟨hlt, hm, by omega⟩)
  clear hlt hd hm
  go_enter Tryz.func130, Tryz.ntmps130
  go_wp2_with (fail)
  refine hF.mono ?_
  rintro e w' ⟨rfl, rfl⟩
  go_wp2_with (fail)
  go_ret2
  exact ⟨h, l, rfl, HH, rfl⟩
def BitsOf (a : Nat) (w : World) (e : Ending) (w' : World) : Prop := ∃ k : Nat, e = .returned (.int .i64 k) ∧ Hid (BL a k) ∧ k ≤ 64 ∧ w = w'
theorem bitLenAux_BL : ∀ (f x : Nat), x < 2 ^ f → BL x (Lib.bitLenAux f x)
  | 0, x, h => by
    have : x = 0 := by simpa using h
    subst this; exact BL.zero
  | f + 1, x, h => by
    unfold Lib.bitLenAux
    split
    · rename_i h0; rw [h0]; exact BL.zero
    · rename_i h0
      have := bitLenAux_BL f (x / 2) (by rw [Nat.pow_succ] at h; omega)
      generalize Lib.bitLenAux f (x / 2) = k at *
      refine ⟨?_, fun _ => ?_⟩
      · have := this.1
        rw [Nat.add_comm, Nat.pow_succ]; omega
      · show 2 ^ (1 + k - 1) ≤ x
        rw [show 1 + k - 1 = k by omega]
        cases k with
        | zero => simp; omega
        | succ j =>
          have := this.2 (by omega)
          simp at this
          rw [Nat.pow_succ]; omega
theorem wlen_any (a : Nat) (w : World) (ha : Hid (a < 18446744073709551616)) :
    Calls Tryz.prog 98 #[.int .u64 a] w (BitsOf a w) := by
  have hb : Hid (BL a (Lib.bitLen a)) := Lib.hid (bitLenAux_BL 64 a (by have := ha.out; simpa using this))
  have hle : Lib.bitLen a ≤ 64 := Lib.bitLen_le a 64 (by decide) (by have := ha.out; simpa using this)
  have hF := Tryz.bits_Len64 a w (by omega) (by have := ha.out; omega)
  simp only [Int.toNat_natCast] at hF
  generalize Lib.bitLen a = k at *
  go_enter Tryz.func98, Tryz.ntmps98
  go_wp2_with (fail)
  refine hF.mono ?_
  rintro e w' ⟨rfl, rfl⟩
  go_wp2_with (fail)
  go_ret
  exact ⟨k, rfl, hb, hle, rfl⟩
end Go.Proofs.YtacicfmalhhceaaGreatDoor.DigW

/- Numbers of words of 64 bits: plain mathematics, of no program. -/
namespace WideM
open DigM
/-- 2^64 -/
@[irreducible] def B : Nat := 18446744073709551616
theorem B_eq : B = 18446744073709551616 := by unfold B; rfl
theorem B_two : B = 2 ^ 64 := by rw [B_eq]
theorem B_dig : B = 65536 ^ 4 := by rw [B_eq]
theorem B_pos : 0 < B := by rw [B_eq]; decide
theorem Bp_pos (k : Nat) : 0 < B ^ k := Nat.pow_pos B_pos
theorem Bp_two (k : Nat) : B ^ k = 2 ^ (64 * k) := by rw [B_two, ← Nat.pow_mul]
theorem Bp_dig (k : Nat) : B ^ k = 65536 ^ (4 * k) := by rw [B_dig, ← Nat.pow_mul]
/-- word i of n -/
def wd (n i : Nat) : Nat := n / B ^ i % B
theorem wd_lt (n i : Nat) : wd n i < B := Nat.mod_lt _ B_pos
theorem wd_lt' (n i : Nat) : wd n i < 18446744073709551616 := by rw [← B_eq]; exact wd_lt n i
theorem mod_step (n k : Nat) : n % B ^ (k + 1) = n % B ^ k + B ^ k * wd n k := Nat.mod_pow_succ
theorem split (n k : Nat) : n = n % B ^ k + B ^ k * (wd n k + B * (n / B ^ (k + 1))) := by
  have h1 := Nat.mod_add_div n (B ^ k)
  have h2 := Nat.mod_add_div (n / B ^ k) B
  rw [Nat.div_div_eq_div_mul, ← Nat.pow_succ] at h2
  unfold wd
  rw [h2, h1]
theorem wd_zero_of_lt {n k i : Nat} (h : n < B ^ k) (hi : k ≤ i) : wd n i = 0 := by
  unfold wd
  rw [Nat.div_eq_of_lt (Nat.lt_of_lt_of_le h (Nat.pow_le_pow_right B_pos hi))]
  exact Nat.zero_mod _
/-- n, but word k is x -/
def put (n k x : Nat) : Nat := n % B ^ k + B ^ k * (x + B * (n / B ^ (k + 1)))
theorem put_eq (n k x : Nat) : put n k x + B ^ k * wd n k = n + B ^ k * x := by
  have := split n k
  unfold put
  rw [Nat.mul_add] at this ⊢
  omega
theorem wd_put (n k x i : Nat) (hx : x < B) : wd (put n k x) i = if i = k then x else wd n i := by
  have hm := Nat.mod_lt n (Bp_pos k)
  unfold wd put
  by_cases h : i = k
  · subst h
    rw [if_pos rfl, Nat.add_mul_div_left _ _ (Bp_pos i), Nat.div_eq_of_lt hm, Nat.zero_add, Nat.add_mul_mod_self_left, Nat.mod_eq_of_lt hx]
  · rw [if_neg h]
    rcases Nat.lt_or_ge i k with hlt | hge
    · obtain ⟨j, rfl⟩ : ∃ j, k = i + (j + 1) := ⟨k - i - 1, by omega⟩
      have key : ∀ z, (n % B ^ (i + (j + 1)) + B ^ (i + (j + 1)) * z) / B ^ i % B = n % B ^ (i + (j + 1)) / B ^ i % B := by
        intro z
        rw [show B ^ (i + (j + 1)) * z = B ^ i * (B * (B ^ j * z)) by rw [Nat.pow_add, Nat.pow_succ]; simp only [Nat.mul_comm, Nat.mul_left_comm], Nat.add_mul_div_left _ _ (Bp_pos i), Nat.add_mul_mod_self_left]
      rw [key]
      have h2 := Nat.mod_add_div n (B ^ (i + (j + 1)))
      have h3 := key (n / B ^ (i + (j + 1)))
      rw [h2] at h3
      exact h3.symm
    · obtain ⟨j, rfl⟩ : ∃ j, i = k + 1 + j := ⟨i - k - 1, by omega⟩
      have e : ∀ z, (n % B ^ k + B ^ k * (x + B * z)) / B ^ (k + 1 + j) = z / B ^ j := by
        intro z
        rw [Nat.pow_add, Nat.pow_succ, Nat.mul_assoc, ← Nat.div_div_eq_div_mul, Nat.add_mul_div_left _ _ (Bp_pos k), Nat.div_eq_of_lt hm, Nat.zero_add, ← Nat.div_div_eq_div_mul, Nat.add_mul_div_left _ _ B_pos, Nat.div_eq_of_lt hx, Nat.zero_add]
      rw [e, Nat.div_div_eq_div_mul, ← Nat.pow_add]
theorem put_lt {n k m x : Nat} (hn : n < B ^ m) (hk : k < m) (hx : x < B) : put n k x < B ^ m := by
  obtain ⟨j, rfl⟩ : ∃ j, m = k + 1 + j := ⟨m - k - 1, by omega⟩
  have hm := Nat.mod_lt n (Bp_pos k)
  have hq : n / B ^ (k + 1) < B ^ j := Nat.div_lt_of_lt_mul (by rw [← Nat.pow_add]; exact hn)
  unfold put
  have h1 : x + B * (n / B ^ (k + 1)) + 1 ≤ B ^ (j + 1) := by
    have := Nat.mul_le_mul_left B (show n / B ^ (k + 1) + 1 ≤ B ^ j from hq)
    have e : B ^ (j + 1) = B * B ^ j := by rw [Nat.pow_succ, Nat.mul_comm]
    rw [e]
    rw [Nat.mul_add] at this; omega
  have h2 := Nat.mul_le_mul_left (B ^ k) h1
  rw [← Nat.pow_add, Nat.mul_add, Nat.mul_one] at h2
  rw [show k + 1 + j = k + (j + 1) by omega]
  omega
theorem put_small {n k x : Nat} (hn : n < B ^ k) : put n k x = n + B ^ k * x := by
  have := put_eq n k x
  rw [wd_zero_of_lt hn (Nat.le_refl _), Nat.mul_zero, Nat.add_zero] at this
  exact this
theorem ext_words {m a b : Nat} (ha : a < B ^ m) (hb : b < B ^ m) (h : ∀ i, i < m → wd a i = wd b i) : a = b := by
  have key : ∀ k, k ≤ m → a % B ^ k = b % B ^ k := by
    intro k
    induction k with
    | zero => intro _; simp [Nat.mod_one]
    | succ k ih => intro hk; rw [mod_step, mod_step, ih (by omega), h k (by omega)]
  have := key m (Nat.le_refl _)
  rwa [Nat.mod_eq_of_lt ha, Nat.mod_eq_of_lt hb] at this
/-- any m words are those of a number -/
theorem of_words : ∀ (ws : List Nat), (∀ x ∈ ws, x < B) → ∃ n, n < B ^ ws.length ∧ ∀ i (h : i < ws.length), ws[i] = wd n i
  | [], _ => ⟨0, by simp, fun i h => by simp at h⟩
  | x :: ws, h => by
    obtain ⟨n, h1, h2⟩ := of_words ws (fun y hy => h y (List.mem_cons_of_mem _ hy))
    have hx := h x (List.mem_cons_self ..)
    refine ⟨x + B * n, ?_, fun i hi => ?_⟩
    · have := Nat.mul_le_mul_left B (show n + 1 ≤ B ^ ws.length from h1)
      rw [List.length_cons, Nat.pow_succ, Nat.mul_comm (B ^ _)]
      rw [Nat.mul_add] at this; omega
    · cases i with
      | zero => simp [wd, Nat.mod_eq_of_lt hx]
      | succ i =>
        rw [List.getElem_cons_succ, h2 i (by simpa using hi)]
        unfold wd
        rw [Nat.pow_succ, Nat.mul_comm (B ^ i), ← Nat.div_div_eq_div_mul, Nat.add_mul_div_left _ _ B_pos, Nat.div_eq_of_lt hx, Nat.zero_add]
/-- 2^512 -/
def M : Nat := B ^ 8
theorem M_two (e : Nat) (he : e = 512) : M = 2 ^ e := by
  obtain rfl : 64 * 8 = e := by omega
  exact Bp_two 8
theorem M_pos : 0 < M := Bp_pos 8
/-- modulo 2^512 -/
def low (n : Nat) : Nat := n % M
def fitB (n : Nat) : Bool := decide (n < M)
def leB (a b : Nat) : Bool := decide (a ≤ b)
def eqB (a b : Nat) : Bool := decide (a = b)
theorem low_lt (n : Nat) : low n < M := Nat.mod_lt _ M_pos
theorem low_of {n : Nat} (h : n < M) : low n = n := Nat.mod_eq_of_lt h
theorem eqB_same (a : Nat) : eqB a a = true := by simp [eqB]
/-- the difference modulo 2^512 -/
def subL (a b : Nat) : Nat := low (a + M - b)
def cmpI (a b : Nat) : Int := if a < b then -1 else if a = b then 0 else 1
/-! ### a sum and a difference, word by word -/
def SumW (a b k s c : Nat) : Prop := c ≤ 1 ∧ s < B ^ k ∧ s + B ^ k * c = a % B ^ k + b % B ^ k
theorem SumW.start (a b : Nat) : SumW a b 0 0 0 := ⟨by decide, by simp, by simp [Nat.mod_one]⟩
theorem SumW.next {a b k s c x o : Nat} (h : SumW a b k s c) (ho : o ≤ 1) (hx : x < B) (he : x + B * o = wd a k + wd b k + c) : SumW a b (k + 1) (put s k x) o := by
  obtain ⟨h1, h2, h3⟩ := h
  refine ⟨ho, put_lt (Nat.lt_of_lt_of_le h2 (Nat.pow_le_pow_right B_pos (by omega))) (by omega) hx, ?_⟩
  rw [put_small h2, mod_step, mod_step, Nat.pow_succ, Nat.mul_assoc]
  have := congrArg (B ^ k * ·) he
  simp only [Nat.mul_add] at this
  omega
theorem SumW.over {a b s c : Nat} (h : SumW a b 8 s c) (ha : a < M) (hb : b < M) : s = low (a + b) ∧ ((c : Int) == 0) = fitB (a + b) := by
  obtain ⟨h1, h2, h3⟩ := h
  change s < M at h2
  change s + M * c = a % M + b % M at h3
  rw [Nat.mod_eq_of_lt ha, Nat.mod_eq_of_lt hb] at h3
  refine ⟨?_, ?_⟩
  · rw [low, ← h3, Nat.add_mul_mod_self_left, Nat.mod_eq_of_lt h2]
  · unfold fitB
    rw [Bool.eq_iff_iff, beq_iff_eq, decide_eq_true_eq]
    rcases Nat.le_one_iff_eq_zero_or_eq_one.1 h1 with h | h <;> subst h <;> omega
def DifW (a b k s c : Nat) : Prop := c ≤ 1 ∧ s < B ^ k ∧ s + b % B ^ k = a % B ^ k + B ^ k * c
theorem DifW.start (a b : Nat) : DifW a b 0 0 0 := ⟨by decide, by simp, by simp [Nat.mod_one]⟩
theorem DifW.next {a b k s c x o : Nat} (h : DifW a b k s c) (ho : o ≤ 1) (hx : x < B) (he : x + wd b k + c = wd a k + B * o) : DifW a b (k + 1) (put s k x) o := by
  obtain ⟨h1, h2, h3⟩ := h
  refine ⟨ho, put_lt (Nat.lt_of_lt_of_le h2 (Nat.pow_le_pow_right B_pos (by omega))) (by omega) hx, ?_⟩
  rw [put_small h2, mod_step, mod_step, Nat.pow_succ, Nat.mul_assoc]
  have := congrArg (B ^ k * ·) he
  simp only [Nat.mul_add] at this
  omega
theorem DifW.over {a b s c : Nat} (h : DifW a b 8 s c) (ha : a < M) (hb : b < M) : s = subL a b ∧ ((c : Int) == 0) = leB b a := by
  obtain ⟨h1, h2, h3⟩ := h
  change s < M at h2
  change s + b % M = a % M + M * c at h3
  rw [Nat.mod_eq_of_lt ha, Nat.mod_eq_of_lt hb] at h3
  unfold subL low leB
  rcases Nat.le_one_iff_eq_zero_or_eq_one.1 h1 with h | h <;> subst h
  · refine ⟨?_, by rw [Bool.eq_iff_iff, beq_iff_eq, decide_eq_true_eq]; omega⟩
    rw [show a + M - b = s + M by omega, Nat.add_mod_right, Nat.mod_eq_of_lt h2]
  · refine ⟨?_, by rw [Bool.eq_iff_iff, beq_iff_eq, decide_eq_true_eq]; omega⟩
    rw [show a + M - b = s by omega, Nat.mod_eq_of_lt h2]
/-! ### a product, row by row -/
def ProdW (a b i t : Nat) : Prop := t = (a % B ^ i) * b
def RowW (a b i j t c : Nat) : Prop := c < B ∧ t < B ^ (i + 8) ∧ t + B ^ (i + j) * c = (a % B ^ i) * b + B ^ i * (wd a i * (b % B ^ j))
theorem ProdW.start (a b : Nat) : ProdW a b 0 0 := by simp [ProdW, Nat.mod_one]
theorem ProdW.lt {a b i t : Nat} (h : ProdW a b i t) (hb : b < M) : t < B ^ (i + 8) := by
  rw [h, Nat.pow_add]
  have h1 := Nat.mod_lt a (Bp_pos i)
  exact Nat.mul_lt_mul_of_lt_of_le h1 (Nat.le_of_lt hb) (Bp_pos 8)
theorem ProdW.skip {a b i t : Nat} (h : ProdW a b i t) (h0 : wd a i = 0) : ProdW a b (i + 1) t := by
  unfold ProdW at h ⊢
  rw [mod_step, h0, Nat.mul_zero, Nat.add_zero]
  exact h
theorem ProdW.row {a b i t : Nat} (h : ProdW a b i t) (hb : b < M) : RowW a b i 0 t 0 := ⟨B_pos, h.lt hb, by simp [Nat.mod_one]; exact h⟩
theorem RowW.next {a b i j t c x o : Nat} (h : RowW a b i j t c) (hj : j < 8) (hx : x < B) (ho : o < B) (he : x + B * o = wd a i * wd b j + wd t (i + j) + c) : RowW a b i (j + 1) (put t (i + j) x) o := by
  obtain ⟨h1, h2, h3⟩ := h
  refine ⟨ho, put_lt h2 (by omega) hx, ?_⟩
  have hp := put_eq t (i + j) x
  have e1 : B ^ (i + (j + 1)) = B ^ (i + j) * B := by rw [← Nat.add_assoc, Nat.pow_succ]
  have e2 : B ^ i * (wd a i * (b % B ^ (j + 1))) = B ^ i * (wd a i * (b % B ^ j)) + B ^ (i + j) * (wd a i * wd b j) := by
    rw [mod_step, Nat.mul_add, Nat.mul_add, Nat.pow_add]
    simp only [Nat.mul_assoc, Nat.mul_left_comm]
  rw [e1, e2, Nat.mul_assoc]
  have := congrArg (B ^ (i + j) * ·) he
  simp only [Nat.mul_add] at this
  omega
theorem RowW.over {a b i t c : Nat} (h : RowW a b i 8 t c) (hb : b < M) : ProdW a b (i + 1) (put t (i + 8) c) := by
  obtain ⟨h1, h2, h3⟩ := h
  unfold ProdW
  rw [Nat.mod_eq_of_lt (show b < B ^ 8 from hb)] at h3
  rw [put_small h2, h3, mod_step a i, Nat.add_mul, Nat.mul_assoc]
theorem ProdW.over {a b t : Nat} (h : ProdW a b 8 t) (ha : a < M) : t = a * b := by
  unfold ProdW at h
  rw [h, Nat.mod_eq_of_lt (show a < B ^ 8 from ha)]
theorem wd_high (t i : Nat) : wd t (i + 8) = wd (t / M) i := by
  unfold wd M
  rw [Nat.div_div_eq_div_mul, ← Nat.pow_add, Nat.add_comm]
theorem part_step {t k : Nat} : put (t % B ^ k) k (wd t k) = t % B ^ (k + 1) := by
  rw [put_small (Nat.mod_lt _ (Bp_pos k)), mod_step]
theorem high_zero {t : Nat} : eqB (t / M) 0 = fitB t := by
  unfold eqB fitB
  exact decide_eq_decide.2 (Nat.div_eq_zero_iff_lt M_pos)
/-! ### how numbers compare; how long they are -/
theorem top_step {a b j : Nat} (h : a / B ^ (j + 1) = b / B ^ (j + 1)) (he : wd a j = wd b j) : a / B ^ j = b / B ^ j := by
  have key : ∀ n, n / B ^ j = wd n j + B * (n / B ^ (j + 1)) := fun n => by
    unfold wd
    have := Nat.mod_add_div (n / B ^ j) B
    rw [Nat.div_div_eq_div_mul, ← Nat.pow_succ] at this
    exact this.symm
  rw [key a, key b, h, he]
theorem top_lt {a b j : Nat} (h : a / B ^ (j + 1) = b / B ^ (j + 1)) (he : wd a j < wd b j) : a < b := by
  have h1 := split a j
  have h2 := split b j
  rw [h] at h1
  have hm := Nat.mod_lt a (Bp_pos j)
  have := Nat.mul_le_mul_left (B ^ j) (show wd a j + B * (b / B ^ (j + 1)) + 1 ≤ wd b j + B * (b / B ^ (j + 1)) by omega)
  rw [Nat.mul_add, Nat.mul_one] at this
  generalize b % B ^ j = r at *
  omega
theorem cmpI_lt {a b : Nat} (h : a < b) : cmpI a b = -1 := if_pos h
theorem cmpI_gt {a b : Nat} (h : b < a) : cmpI a b = 1 := by unfold cmpI; rw [if_neg (by omega), if_neg (by omega)]
theorem cmpI_eq (a : Nat) : cmpI a a = 0 := by simp [cmpI]
/-- how many bits n has -/
def bl (n : Nat) : Nat := if n = 0 then 0 else n.log2 + 1
theorem bl_BL (n : Nat) : BL n (bl n) := by
  unfold bl
  split
  · rename_i h; rw [h]; exact BL.zero
  · rename_i h
    exact ⟨Nat.lt_log2_self, fun _ => Nat.log2_self_le h⟩
theorem bl_of {n k : Nat} (h : BL n k) : bl n = k := (bl_BL n).uniq h
theorem bl_top {a j k : Nat} (h : a / B ^ (j + 1) = 0) (hk : BL (wd a j) k) (hk0 : wd a j ≠ 0) : bl a = 64 * j + k := by
  have hs := split a j
  rw [h, Nat.mul_zero, Nat.add_zero] at hs
  have hm := Nat.mod_lt a (Bp_pos j)
  obtain ⟨h1, h2⟩ := hk
  have hkp : 0 < k := Nat.pos_of_ne_zero fun e => by rw [e] at h1; simp at h1; exact hk0 h1
  have h3 := h2 hkp
  rw [Bp_two] at hs hm
  refine bl_of ⟨?_, fun _ => ?_⟩
  · have := Nat.mul_le_mul_left (2 ^ (64 * j)) (show wd a j + 1 ≤ 2 ^ k from h1)
    rw [Nat.mul_add, ← Nat.pow_add, Nat.mul_one] at this
    omega
  · have := Nat.mul_le_mul_left (2 ^ (64 * j)) h3
    rw [← Nat.pow_add] at this
    rw [show 64 * j + k - 1 = 64 * j + (k - 1) by omega]
    omega
theorem bl_zero {a : Nat} (h : a / B ^ 0 = 0) : bl a = 0 := by
  simp at h; rw [h]; rfl
/-! ### bits -/
/-- the number whose bits below n are f's -/
def ofBits (f : Nat → Bool) : Nat → Nat
  | 0 => 0
  | n + 1 => ofBits f n + if f n then 2 ^ n else 0
theorem ofBits_lt (f : Nat → Bool) : ∀ n, ofBits f n < 2 ^ n
  | 0 => by simp [ofBits]
  | n + 1 => by
    have := ofBits_lt f n
    rw [ofBits, Nat.pow_succ]; split <;> omega
theorem testBit_ofBits (f : Nat → Bool) : ∀ n i, (ofBits f n).testBit i = (decide (i < n) && f i)
  | 0, i => by simp [ofBits]
  | n + 1, i => by
    have hl := ofBits_lt f n
    have ih := testBit_ofBits f n i
    rw [ofBits]
    by_cases hf : f n = true
    · rw [if_pos hf, Nat.add_comm]
      by_cases hi : i = n
      · subst hi
        rw [Nat.testBit_two_pow_add_eq, Nat.testBit_lt_two_pow hl]; simp [hf]
      · rcases Nat.lt_or_ge i n with h | h
        · rw [Nat.testBit_two_pow_add_gt h, ih]; simp [h, show i < n + 1 by omega]
        · have h1 : 2 ^ n + ofBits f n < 2 ^ (n + 1) := by rw [Nat.pow_succ]; omega
          rw [Nat.testBit_lt_two_pow (Nat.lt_of_lt_of_le h1 (Nat.pow_le_pow_right (by decide) (by omega)))]
          simp; omega
    · rw [if_neg hf, Nat.add_zero, ih]
      by_cases hi : i = n
      · subst hi; simp [hf]
      · have : decide (i < n + 1) = decide (i < n) := decide_eq_decide.2 (by omega)
        rw [this]
theorem ext_bits {a b : Nat} (h : ∀ i, a.testBit i = b.testBit i) : a = b := Nat.eq_of_testBit_eq h
theorem M_le {i : Nat} (hi : 512 ≤ i) : M ≤ 2 ^ i := by
  obtain ⟨e, he⟩ : ∃ e : Nat, e = 512 := ⟨_, rfl⟩
  rw [M_two e he]; exact Nat.pow_le_pow_right (by decide) (by omega)
theorem bit_big {a i : Nat} (ha : a < M) (hi : 512 ≤ i) : a.testBit i = false :=
  Nat.testBit_lt_two_pow (Nat.lt_of_lt_of_le ha (M_le hi))
/-- bit z of a; false if there is none -/
def bitZ (a : Nat) (z : Int) : Bool := decide (0 ≤ z) && a.testBit z.toNat
/-- a shifted by z -/
def shN (a : Nat) (z : Int) : Nat := ofBits (fun i => bitZ a ((i : Int) - z)) 512
theorem ofBits_lt_M {f : Nat → Bool} {e : Nat} (he : e = 512) : ofBits f e < M := by rw [M_two e he]; exact ofBits_lt _ _
theorem shN_lt (a : Nat) (z : Int) : shN a z < M := ofBits_lt_M rfl
theorem shN_bit (a : Nat) (z : Int) (i : Nat) : (shN a z).testBit i = (decide (i < 512) && bitZ a ((i : Int) - z)) := testBit_ofBits _ _ _
theorem wd_bit (n i j : Nat) (hj : j < 64) : (wd n i).testBit j = n.testBit (64 * i + j) := by
  unfold wd
  rw [B_two, ← Nat.pow_mul, Nat.testBit_mod_two_pow, Nat.testBit_div_two_pow]
  simp [hj, Nat.add_comm]
/-- word d of a; 0 if there is none -/
def wz (a : Nat) (d : Int) : Nat := if 0 ≤ d ∧ d < 8 then wd a d.toNat else 0
theorem wz_lt (a : Nat) (d : Int) : wz a d < B := by unfold wz; split; exact wd_lt _ _; exact B_pos
theorem wz_bit {a : Nat} (ha : a < M) (d : Int) (s : Nat) (hs : s < 64) : bitZ a (64 * d + s) = (wz a d).testBit s := by
  unfold bitZ wz
  split
  · rename_i h
    obtain ⟨k, rfl⟩ : ∃ k : Nat, d = k := ⟨d.toNat, by omega⟩
    have e1 : (64 * (k : Int) + s).toNat = 64 * k + s := by omega
    have e2 : (0 : Int) ≤ 64 * (k : Int) + s := by omega
    rw [e1, decide_eq_true e2, Bool.true_and, Int.toNat_natCast, wd_bit _ _ _ hs]
  · rename_i h
    rw [Nat.zero_testBit]
    by_cases h0 : (0 : Int) ≤ 64 * d + s
    · rw [bit_big ha (by omega)]; simp
    · simp [h0]
theorem wz_is {a : Nat} (ha : a < M) (z : Int) {r x : Nat} (hr : z % 64 = r) (hx : wz a (z / 64) = x) : bitZ a z = decide (x / 2 ^ r % 2 = 1) := by
  have := wz_bit ha (z / 64) r (by omega)
  rw [show 64 * (z / 64) + (r : Int) = z by omega, hx] at this
  rw [this, Nat.testBit_eq_decide_div_mod_eq]
/-- a word of a shifted number -/
theorem sh_word {a : Nat} (ha : a < M) (z : Int) {i l x1 x2 : Nat} (hi : i < 8) (hl : z % 64 = l) (h1 : wz a ((i : Int) - z / 64) = x1) (h2 : wz a ((i : Int) - z / 64 - 1) = x2) :
    wd (shN a z) i = (x1 * 2 ^ l) % 2 ^ 64 ||| x2 / 2 ^ (64 - l) := by
  have hl64 : l < 64 := by omega
  apply Nat.eq_of_testBit_eq
  intro j
  rw [Nat.testBit_or, Nat.testBit_mod_two_pow, Nat.testBit_div_two_pow, ← Nat.shiftLeft_eq, Nat.testBit_shiftLeft]
  by_cases hj : j < 64
  · rw [wd_bit _ _ _ hj, shN_bit]
    have e512 : 64 * i + j < 512 := by omega
    rw [decide_eq_true e512, decide_eq_true hj, Bool.true_and, Bool.true_and]
    by_cases hlj : l ≤ j
    · have e := wz_bit ha ((i : Int) - z / 64) (j - l) (by omega)
      rw [show 64 * ((i : Int) - z / 64) + ((j - l : Nat) : Int) = ((64 * i + j : Nat) : Int) - z by omega, h1] at e
      rw [e]
      have hb : x2 < 2 ^ 64 := by rw [← h2, ← B_two]; exact wz_lt _ _
      rw [Nat.testBit_lt_two_pow (Nat.lt_of_lt_of_le hb (Nat.pow_le_pow_right (by decide) (show 64 ≤ j + (64 - l) by omega)))]
      simp [hlj]
    · have e := wz_bit ha ((i : Int) - z / 64 - 1) (j + (64 - l)) (by omega)
      rw [show 64 * ((i : Int) - z / 64 - 1) + ((j + (64 - l) : Nat) : Int) = ((64 * i + j : Nat) : Int) - z by omega, h2] at e
      rw [e]
      simp [hlj]
  · have hw : wd (shN a z) i < 2 ^ j := Nat.lt_of_lt_of_le (by rw [← B_two]; exact wd_lt _ _) (Nat.pow_le_pow_right (by decide) (show 64 ≤ j by omega))
    have hb : x2 < 2 ^ 64 := by rw [← h2, ← B_two]; exact wz_lt _ _
    rw [Nat.testBit_lt_two_pow hw, Nat.testBit_lt_two_pow (Nat.lt_of_lt_of_le hb (Nat.pow_le_pow_right (by decide) (show 64 ≤ j + (64 - l) by omega)))]
    simp [hj]
theorem bit_wd (n i : Nat) : n.testBit i = (wd n (i / 64)).testBit (i % 64) := by
  rw [wd_bit _ _ _ (Nat.mod_lt _ (by decide)), Nat.div_add_mod]
end WideM

/- Rows of words as values: plain facts, for any program. -/
namespace WideV
open Go WideM
/-- m words that are n's -/
def cells (m n : Nat) : Array Value := ((List.range m).map fun i => Value.int .u64 (wd n i : Nat)).toArray
@[simp] theorem cells_size (m n : Nat) : (cells m n).size = m := by simp [cells]
theorem cells_get {m n i : Nat} (h : i < m) : (cells m n)[i]? = some (.int .u64 (wd n i : Nat)) := by simp [cells, h]
theorem cells_is {m n i x : Nat} (h : i < m) (hx : wd n i = x) : (cells m n)[i]? = some (.int .u64 (x : Nat)) := by rw [cells_get h, hx]
theorem cells_at {m n i x : Nat} (h : i < m) (hx : wd n i = x) : (cells m n)[i]'(by simp [h]) = .int .u64 (x : Nat) := by subst hx; simp [cells]
theorem cells_set {m n k x : Nat} (hx : x < B) : (cells m n).setIfInBounds k (.int .u64 (x : Nat)) = cells m (put n k x) := by
  apply Array.ext_getElem?
  intro i
  by_cases hi : i < m
  · rw [cells_get hi, wd_put n k x i hx]
    by_cases e : i = k
    · subst e
      simp [hi]
    · rw [if_neg e, Array.getElem?_setIfInBounds_ne (fun h => e h.symm), cells_get hi]
  · rw [Array.getElem?_eq_none (by simp; omega), Array.getElem?_eq_none (by simp; omega)]
theorem cells_one (m n : Nat) : (cells m n).all (·.oneCell') = true := by
  rw [Array.all_eq_true]
  intro i hi
  simp [cells]
  rfl
theorem cells_inj {m a b : Nat} (ha : a < B ^ m) (hb : b < B ^ m) (h : cells m a = cells m b) : a = b := by
  refine ext_words ha hb fun i hi => ?_
  have := congrArg (·[i]?) h
  simp only [cells_get hi, Option.some.injEq, Value.int.injEq, Int.ofNat_inj, true_and] at this
  exact this
/-- eight cells, one by one -/
@[simp] theorem fold8 (m n : Nat) (h0 : 0 < (cells m n).size) (h1 : 1 < (cells m n).size) (h2 : 2 < (cells m n).size) (h3 : 3 < (cells m n).size) (h4 : 4 < (cells m n).size) (h5 : 5 < (cells m n).size) (h6 : 6 < (cells m n).size) (h7 : 7 < (cells m n).size) (hm : m = 8) :
    #[(cells m n)[0], (cells m n)[1], (cells m n)[2], (cells m n)[3], (cells m n)[4], (cells m n)[5], (cells m n)[6], (cells m n)[7]] = cells m n := by
  subst hm
  simp [cells, List.range_succ]
section
variable {P : Program}
theorem eqItems_words (d : Nat) {e : TypeId} (he : P.underlying e = some (.int .u64)) (w : World) (m a b : Nat) : ∀ is : List Nat, (∀ i ∈ is, i < m) →
    (Op.eqItems (d + 1) e 1 (cells m a) (cells m b) is).run P w = .ok (is.all fun i => wd a i == wd b i) w
  | [], _ => by simp [Op.eqItems]
  | i :: is, h => by
    have hi := h i (List.mem_cons_self ..)
    have hp : P.plainKey e = true := by simp [Program.plainKey, he]
    have ih := eqItems_words d he w m a b is (fun j hj => h j (List.mem_cons_of_mem _ hj))
    simp only [Op.eqItems, Sem.run_bind, Nat.mul_one, run_part_plain w hp (cells_get hi), Result.andThen_ok, run_equalIn_int w d e .u64 .u64 _ _ he]
    by_cases hc : wd a i = wd b i
    · simp [hc, ih]
    · have : ((wd a i : Nat) : Int) ≠ (wd b i : Nat) := fun h => hc (Int.ofNat_inj.1 h)
      simp [hc, this]
theorem eql_words {t e : TypeId} {m : Nat} (hu : P.underlying t = some (.array m e)) (he : P.underlying e = some (.int .u64)) (hc : P.cellsOf e = 1) (a b : Nat) (ha : a < B ^ m) (hb : b < B ^ m) (w : World) :
    (Op.equalIn 10000 t (.agg (cells m a)) (.agg (cells m b))).run P w = .ok (eqB a b) w := by
  obtain ⟨i, hi⟩ := info_of_underlying he
  rw [run_equalIn_array w 9999 (cells m a) (cells m b) hu hi, hc, eqItems_words 9998 he w m a b _ (fun i hi => List.mem_range.1 hi)]
  congr 1
  unfold eqB
  rw [Bool.eq_iff_iff, List.all_eq_true, decide_eq_true_eq]
  refine ⟨fun h => ext_words ha hb fun i hi => by simpa using h i (List.mem_range.2 hi), fun h => ?_⟩
  subst h
  intro i _
  simp
theorem eql_self {t e : TypeId} {m : Nat} (hu : P.underlying t = some (.array m e)) (he : P.underlying e = some (.int .u64)) (hc : P.cellsOf e = 1) (a : Nat) (w : World) :
    (Op.equalIn 10000 t (.agg (cells m a)) (.agg (cells m a))).run P w = .ok true w := by
  obtain ⟨i, hi⟩ := info_of_underlying he
  rw [run_equalIn_array w 9999 (cells m a) (cells m a) hu hi, hc, eqItems_words 9998 he w m a a _ (fun i hi => List.mem_range.1 hi)]
  simp
end
end WideV

/- What package wide answers: contracts over the translation. -/
namespace Go.Proofs.YtacicfmalhhceaaGreatDoor.WideW
open Go.RowKit
open DigM WideM WideV KM DigW
abbrev wv (n : Nat) : Value := .agg (cells 8 n)
theorem ret_agg {c c' : Array Value} (h : c = c') : Ending.returned (.agg c) = .returned (.agg c') := by rw [h]
theorem rowW : Row Tryz.prog 24 8 := ⟨by kernel_rfl, by kernel_rfl⟩
theorem zeroW : KM.Zero Tryz.prog 24 (cells 8 0) := by unfold KM.Zero; kernel_rfl
theorem eqlW (a b : Nat) (ha : a < M) (hb : b < M) (w : World) : (Op.equalIn 10000 24 (.agg (cells 8 a)) (.agg (cells 8 b))).run Tryz.prog w = .ok (eqB a b) w :=
  eql_words Tryz.underlying24 Tryz.underlying22 (by kernel_rfl) a b ha hb w
@[simp] theorem selfW (a : Nat) (w : World) : (Op.equalIn 10000 24 (.agg (cells 8 a)) (.agg (cells 8 a))).run Tryz.prog w = .ok true w :=
  eql_self Tryz.underlying24 Tryz.underlying22 (by kernel_rfl) a w
theorem nought : (#[.int .u64 0, .int .u64 0, .int .u64 0, .int .u64 0, .int .u64 0, .int .u64 0, .int .u64 0, .int .u64 0] : Array Value) = cells 8 0 := by kernel_rfl
theorem zero_any (a : Nat) (ha : a < M) (w : World) : Calls Tryz.prog 27 #[wv a] w (Ret (.bool (eqB a 0)) w) := by
  have hq := eqlW a 0 ha M_pos
  rw [← nought] at hq
  refine enter fun u => ?_
  unfold wv
  go_enter Tryz.func27, Tryz.ntmps27
  go_wp2_with (first | ((with_reducible apply list_box); exact rfl; intro _ _) | ((with_reducible apply lst_load); exact rfl; infer_instance; exact rowW; exact cells_size _ _))
  go_ret
  exact ⟨rfl, KW.below _⟩
theorem of_any (n : Nat) (hn : Hid (n < 18446744073709551616)) (w : World) : Calls Tryz.prog 31 #[.int .u64 n] w (Ret (wv n) w) := by
  have hc : (#[.int .u64 (n : Nat), .int .u64 0, .int .u64 0, .int .u64 0, .int .u64 0, .int .u64 0, .int .u64 0, .int .u64 0] : Array Value) = cells 8 n := by
    have h0 : cells 8 (put 0 0 n) = (cells 8 0).setIfInBounds 0 (.int .u64 (n : Nat)) := (cells_set (by rw [B_eq]; exact hn.out)).symm
    rw [put_small (by simp), Nat.zero_add, Nat.pow_zero, Nat.one_mul, ← nought] at h0
    rw [h0]; rfl
  have HC := Lib.hid hc
  clear hc
  refine enter fun u => ?_
  go_enter Tryz.func31, Tryz.ntmps31
  have hc := HC.out
  go_wp2_with (first | ((with_reducible apply list_alloc); exact zeroW; intro _ _) | ((with_reducible apply lst_store); exact rfl; exact rfl; infer_instance; exact rowW; exact cells_size _ _; exact cells_size _ _; exact cells_one _ _; intro _))
  refine body_cell Tryz.results31 rfl rowW (cells_size _ _) ⟨rfl, KW.below _⟩
theorem wordAt_any (a : Nat) (z : Int) (h1 : -9223372036854775808 ≤ z) (h2 : z ≤ 9223372036854775807) (w : World) : Calls Tryz.prog 127 #[wv a, .int .i64 z] w (Ret (.int .u64 (wz a z : Nat)) w) := by
  unfold wv wz
  by_cases h : 0 ≤ z ∧ z < 8
  · obtain ⟨k, rfl⟩ : ∃ k : Nat, z = k := ⟨z.toNat, by omega⟩
    have hk : k < 8 := by omega
    rw [if_pos h]
    obtain ⟨x, hx⟩ : ∃ x, Hid (wd a k = x) := ⟨_, Lib.hid rfl⟩
    have hc := cells_at hk hx.out
    clear h
    refine enter fun u => ?_
    go_enter Tryz.func127, Tryz.ntmps127
    go_wp2_with (first | ((with_reducible apply list_box); exact rfl; intro _ _))
    go_ret
    exact ⟨ret_int (by first | (rw [← hx.out]; rfl) | rw [← hx.out]), KW.below _⟩
  · rw [if_neg h]
    refine enter fun u => ?_
    by_cases h0 : z < 0
    · go_enter Tryz.func127, Tryz.ntmps127
      go_wp2_with (first | ((with_reducible apply list_box); exact rfl; intro _ _))
      go_ret
      exact ⟨rfl, KW.below _⟩
    · go_enter Tryz.func127, Tryz.ntmps127
      go_wp2_with (first | ((with_reducible apply list_box); exact rfl; intro _ _))
      go_ret
      exact ⟨rfl, KW.below _⟩
end Go.Proofs.YtacicfmalhhceaaGreatDoor.WideW

/- package wide's sums and differences. -/
namespace Go.Proofs.YtacicfmalhhceaaGreatDoor.WideW
open Go.RowKit
open DigM WideM WideV KM DigW
/-- word's sum and difference, their results named ahead -/
theorem add_fix (a b c : Nat) (ha : a < B) (hb : b < B) : ∃ s o : Nat, Hid (s < B ∧ o ≤ 1 ∧ s + B * o = a + b + cn c) ∧
    ∀ w, Calls Tryz.prog 128 #[.int .u64 a, .int .u64 b, .int .u64 c] w (fun e w' => e = .returned (.tuple #[.int .u64 s, .int .u64 o]) ∧ w = w') := by
  rw [B_eq] at *
  have hc : cn c ≤ 1 := by unfold cn; split <;> decide
  refine ⟨(a + b + cn c) % 18446744073709551616, (a + b + cn c) / 18446744073709551616, Lib.hid ⟨by omega, by omega, by omega⟩, fun w => ?_⟩
  refine (add_any a b c w (Lib.hid ha) (Lib.hid hb)).mono ?_
  rintro e w' ⟨s, o, rfl, hs, rfl⟩
  obtain ⟨h1, h2, h3⟩ := hs.out
  obtain rfl : s = (a + b + cn c) % 18446744073709551616 := by omega
  obtain rfl : o = (a + b + cn c) / 18446744073709551616 := by omega
  exact ⟨rfl, rfl⟩
theorem sub_fix (a b c : Nat) (ha : a < B) (hb : b < B) : ∃ s o : Nat, Hid (s < B ∧ o ≤ 1 ∧ s + b + cn c = a + B * o) ∧
    ∀ w, Calls Tryz.prog 131 #[.int .u64 a, .int .u64 b, .int .u64 c] w (fun e w' => e = .returned (.tuple #[.int .u64 s, .int .u64 o]) ∧ w = w') := by
  rw [B_eq] at *
  have hc : cn c ≤ 1 := by unfold cn; split <;> decide
  refine ⟨(a + 18446744073709551616 - b - cn c) % 18446744073709551616, if a < b + cn c then 1 else 0, Lib.hid ⟨by omega, by split <;> omega, by split <;> omega⟩, fun w => ?_⟩
  refine (sub_any a b c w (Lib.hid ha) (Lib.hid hb)).mono ?_
  rintro e w' ⟨s, o, rfl, hs, rfl⟩
  obtain ⟨h1, h2, h3⟩ := hs.out
  obtain rfl : s = (a + 18446744073709551616 - b - cn c) % 18446744073709551616 := by omega
  obtain rfl : o = (if a < b + cn c then 1 else 0) := by split <;> omega
  exact ⟨rfl, rfl⟩
theorem cn_le {c : Nat} (h : c ≤ 1) : cn c = c := by unfold cn; split <;> omega
def SumRel (a b : Nat) (w : World) (g2 g3 g4 g6 : Nat) (c i : Value) (wr : World) : Prop :=
  ∃ (k n s : Nat) (u : KW w [⟨g6, cells 8 s, 24⟩, ⟨g4, cells 8 0, 24⟩, ⟨g3, cells 8 b, 24⟩, ⟨g2, cells 8 a, 24⟩]), i = .int .i64 k ∧ k ≤ 8 ∧ c = .int .u64 n ∧ wr = u.w ∧ Hid (SumW a b k s n)
set_option maxHeartbeats 800000 in
theorem wadd_any (a b : Nat) (ha : Hid (a < M)) (hb : Hid (b < M)) (w : World) : Calls Tryz.prog 96 #[wv a, wv b] w (Ret (.tuple #[wv (low (a + b)), .bool (fitB (a + b))]) w) := by
  unfold wv
  refine enter fun u => ?_
  go_enter Tryz.func96, Tryz.ntmps96
  go_wp2_with (first | ((with_reducible apply list_box); exact rfl; intro _ _) | ((with_reducible apply list_alloc); exact zeroW; intro _ _))
  rename_i g2 u2 g3 u3 g4 u4 g6 u6 _ _
  go_loopw [7, 9] (SumRel a b w g2 g3 g4 g6) (fun _ i _ => 8 - (intOf i).toNat)
  case atStart => exact ⟨0, 0, 0, u6, rfl, by decide, rfl, rfl, Lib.hid (SumW.start a b)⟩
  case round =>
    obtain ⟨k, n, s, u, rfl, hk, rfl, rfl, hS⟩ := hrel
    clear u2 u3 u4 u6
    by_cases hk8 : k < 8
    · obtain ⟨x, hx⟩ : ∃ x, Hid (wd a k = x) := ⟨_, Lib.hid rfl⟩
      obtain ⟨y, hy⟩ : ∃ y, Hid (wd b k = y) := ⟨_, Lib.hid rfl⟩
      have hxb : x < B := by rw [← hx.out]; exact wd_lt a k
      have hyb : y < B := by rw [← hy.out]; exact wd_lt b k
      have hc1 := cells_at hk8 hx.out
      have hc2 := cells_at hk8 hy.out
      obtain ⟨z, o, hz, hF⟩ := add_fix x y n hxb hyb
      have hzb : z < B := hz.out.1
      have HN : Hid (SumW a b (k + 1) (put s k z) o) := Lib.hid (by
        have h1 := hz.out.2.2
        rw [cn_le hS.out.1] at h1
        exact hS.out.next hz.out.2.1 hzb (by rw [hx.out, hy.out]; exact h1))
      clear hxb hyb
      have hk8i : (k : Int) < 8 := by omega
      have hk0i : (0 : Int) ≤ k := by omega
      obtain ⟨u3, hu3⟩ := u.ex_put (j := k) (v := .int .u64 (z : Nat)) (cells_set hzb)
      have s1 : u.w.cell? ⟨g2, k, none⟩ = some (.int .u64 (x : Nat)) := by simp [hk8, hc1]
      have s2 : u.w.cell? ⟨g3, k, none⟩ = some (.int .u64 (y : Nat)) := by simp [hk8, hc2]
      have s3 : (u.w.setCell ⟨g6, k, none⟩ (.int .u64 (z : Nat))).cell? ⟨g2, k, none⟩ = some (.int .u64 (x : Nat)) := by rw [hu3]; simp [hk8, hc1]
      have s4 : (u.w.setCell ⟨g6, k, none⟩ (.int .u64 (z : Nat))).cell? ⟨g3, k, none⟩ = some (.int .u64 (y : Nat)) := by rw [hu3]; simp [hk8, hc2]
      have HU := Lib.hid hu3
      clear hu3
      go_wp2_with (fail)
      go_region_held3 (fun w' => w'.cell? ⟨g2, k, none⟩ = some (.int .u64 (x : Nat)) ∧ w'.cell? ⟨g3, k, none⟩ = some (.int .u64 (y : Nat))) (first | exact ⟨s1, s2⟩ | exact ⟨s3, s4⟩)
        (first | (go_at_call 128; refine (hF _).mono ?_; rintro e w' ⟨rfl, rfl⟩))
      go_wp2_with (fail)
      go_roundw
      case rel => exact ⟨k + 1, o, _, u3.drew, by go_num, by omega, rfl, by rw [HU.out]; rfl, HN⟩
      case measure => simp [intOf]; omega
    · obtain rfl : k = 8 := by omega
      have HE := Lib.hid (hS.out.over ha.out hb.out)
      go_wp2_with (first | ((with_reducible apply lst_load); exact rfl; infer_instance; exact rowW; exact cells_size _ _) | ((with_reducible apply lst_store); exact rfl; exact rfl; infer_instance; exact rowW; exact cells_size _ _; exact cells_size _ _; exact cells_one _ _; intro _))
      refine body_cell_tmp Tryz.results96 rfl rfl rowW (cells_size _ _) ⟨?_, KW.below _⟩
      rw [HE.out.1, ← HE.out.2]
      rfl
def DifRel (a b : Nat) (w : World) (g2 g3 g4 g6 : Nat) (c i : Value) (wr : World) : Prop :=
  ∃ (k n s : Nat) (u : KW w [⟨g6, cells 8 s, 24⟩, ⟨g4, cells 8 0, 24⟩, ⟨g3, cells 8 b, 24⟩, ⟨g2, cells 8 a, 24⟩]), i = .int .i64 k ∧ k ≤ 8 ∧ c = .int .u64 n ∧ wr = u.w ∧ Hid (DifW a b k s n)
set_option maxHeartbeats 800000 in
theorem wsub_any (a b : Nat) (ha : Hid (a < M)) (hb : Hid (b < M)) (w : World) : Calls Tryz.prog 150 #[wv a, wv b] w (Ret (.tuple #[wv (subL a b), .bool (leB b a)]) w) := by
  unfold wv
  refine enter fun u => ?_
  go_enter Tryz.func150, Tryz.ntmps150
  go_wp2_with (first | ((with_reducible apply list_box); exact rfl; intro _ _) | ((with_reducible apply list_alloc); exact zeroW; intro _ _))
  rename_i g2 u2 g3 u3 g4 u4 g6 u6 _ _
  go_loopw [7, 9] (DifRel a b w g2 g3 g4 g6) (fun _ i _ => 8 - (intOf i).toNat)
  case atStart => exact ⟨0, 0, 0, u6, rfl, by decide, rfl, rfl, Lib.hid (DifW.start a b)⟩
  case round =>
    obtain ⟨k, n, s, u, rfl, hk, rfl, rfl, hS⟩ := hrel
    clear u2 u3 u4 u6
    by_cases hk8 : k < 8
    · obtain ⟨x, hx⟩ : ∃ x, Hid (wd a k = x) := ⟨_, Lib.hid rfl⟩
      obtain ⟨y, hy⟩ : ∃ y, Hid (wd b k = y) := ⟨_, Lib.hid rfl⟩
      have hxb : x < B := by rw [← hx.out]; exact wd_lt a k
      have hyb : y < B := by rw [← hy.out]; exact wd_lt b k
      have hc1 := cells_at hk8 hx.out
      have hc2 := cells_at hk8 hy.out
      obtain ⟨z, o, hz, hF⟩ := sub_fix x y n hxb hyb
      have hzb : z < B := hz.out.1
      have HN : Hid (DifW a b (k + 1) (put s k z) o) := Lib.hid (by
        have h1 := hz.out.2.2
        rw [cn_le hS.out.1] at h1
        exact hS.out.next hz.out.2.1 hzb (by rw [hx.out, hy.out]; exact h1))
      clear hxb hyb
      have hk8i : (k : Int) < 8 := by omega
      have hk0i : (0 : Int) ≤ k := by omega
      obtain ⟨u3, hu3⟩ := u.ex_put (j := k) (v := .int .u64 (z : Nat)) (cells_set hzb)
      have s1 : u.w.cell? ⟨g2, k, none⟩ = some (.int .u64 (x : Nat)) := by simp [hk8, hc1]
      have s2 : u.w.cell? ⟨g3, k, none⟩ = some (.int .u64 (y : Nat)) := by simp [hk8, hc2]
      have s3 : (u.w.setCell ⟨g6, k, none⟩ (.int .u64 (z : Nat))).cell? ⟨g2, k, none⟩ = some (.int .u64 (x : Nat)) := by rw [hu3]; simp [hk8, hc1]
      have s4 : (u.w.setCell ⟨g6, k, none⟩ (.int .u64 (z : Nat))).cell? ⟨g3, k, none⟩ = some (.int .u64 (y : Nat)) := by rw [hu3]; simp [hk8, hc2]
      have HU := Lib.hid hu3
      clear hu3
      go_wp2_with (fail)
      go_region_held3 (fun w' => w'.cell? ⟨g2, k, none⟩ = some (.int .u64 (x : Nat)) ∧ w'.cell? ⟨g3, k, none⟩ = some (.int .u64 (y : Nat))) (first | exact ⟨s1, s2⟩ | exact ⟨s3, s4⟩)
        (first | (go_at_call 131; refine (hF _).mono ?_; rintro e w' ⟨rfl, rfl⟩))
      go_wp2_with (fail)
      go_roundw
      case rel => exact ⟨k + 1, o, _, u3.drew, by go_num, by omega, rfl, by rw [HU.out]; rfl, HN⟩
      case measure => simp [intOf]; omega
    · obtain rfl : k = 8 := by omega
      have HE := Lib.hid (hS.out.over ha.out hb.out)
      go_wp2_with (first | ((with_reducible apply lst_load); exact rfl; infer_instance; exact rowW; exact cells_size _ _) | ((with_reducible apply lst_store); exact rfl; exact rfl; infer_instance; exact rowW; exact cells_size _ _; exact cells_size _ _; exact cells_one _ _; intro _))
      refine body_cell_tmp Tryz.results150 rfl rfl rowW (cells_size _ _) ⟨?_, KW.below _⟩
      rw [HE.out.1, ← HE.out.2]
      rfl
end Go.Proofs.YtacicfmalhhceaaGreatDoor.WideW

/- package wide's products. -/
namespace Go.Proofs.YtacicfmalhhceaaGreatDoor.WideW
open Go.RowKit
open DigM WideM WideV KM DigW
theorem mul_fix (a b : Nat) (ha : a < B) (hb : b < B) : ∃ h l : Nat, Hid (h < B ∧ l < B ∧ h * B + l = a * b) ∧
    ∀ w, Calls Tryz.prog 130 #[.int .u64 a, .int .u64 b] w (fun e w' => e = .returned (.tuple #[.int .u64 h, .int .u64 l]) ∧ w = w') := by
  rw [B_eq] at *
  have hlt : a * b < 18446744073709551616 * 18446744073709551616 := Nat.mul_lt_mul_of_lt_of_le ha (Nat.le_of_lt hb) (by decide)
  refine ⟨a * b / 18446744073709551616, a * b % 18446744073709551616, Lib.hid ⟨Nat.div_lt_of_lt_mul hlt, Nat.mod_lt _ (by decide), by omega⟩, fun w => ?_⟩
  refine (mul_any a b w (Lib.hid ha) (Lib.hid hb)).mono ?_
  rintro e w' ⟨h, l, rfl, hs, rfl⟩
  obtain ⟨h1, h2, h3⟩ := hs.out
  obtain rfl : h = a * b / 18446744073709551616 := by omega
  obtain rfl : l = a * b % 18446744073709551616 := by omega
  exact ⟨rfl, rfl⟩
theorem mulAdd_fix (a b m c : Nat) (ha : a < B) (hb : b < B) (hm : m < B) (hc : c < B) : ∃ l h : Nat, Hid (l < B ∧ h < B ∧ l + B * h = a * b + m + c) ∧
    ∀ w, Calls Tryz.prog 149 #[.int .u64 a, .int .u64 b, .int .u64 m, .int .u64 c] w (fun e w' => e = .returned (.tuple #[.int .u64 l, .int .u64 h]) ∧ w = w') := by
  obtain ⟨h0, l0, H0, F0⟩ := mul_fix a b ha hb
  obtain ⟨l1, c1, H1, F1⟩ := add_fix l0 m 0 H0.out.2.1 hm
  obtain ⟨l2, c2, H2, F2⟩ := add_fix l1 c 0 H1.out.1 hc
  have hc1 : c1 < B := by have := H1.out.2.1; rw [B_eq]; omega
  obtain ⟨h3, o, H3, F3⟩ := add_fix h0 c1 c2 H0.out.1 hc1
  refine ⟨l2, h3, Lib.hid ⟨H2.out.1, H3.out.1, ?_⟩, fun w => ?_⟩
  · have e0 := H0.out
    have e1 := H1.out
    have e2 := H2.out
    have e3 := H3.out
    rw [cn_le e2.2.1] at e3
    have z : cn 0 = 0 := rfl
    rw [z] at e1 e2
    have hle := Nat.mul_le_mul (show a ≤ B - 1 by omega) (show b ≤ B - 1 by omega)
    rw [B_eq] at *
    omega
  · go_enter Tryz.func149, Tryz.ntmps149
    go_wp2_with (fail)
    refine (F0 _).mono ?_
    rintro e w' ⟨rfl, rfl⟩
    go_wp2_with (fail)
    refine (F1 _).mono ?_
    rintro e w' ⟨rfl, rfl⟩
    go_wp2_with (fail)
    refine (F2 _).mono ?_
    rintro e w' ⟨rfl, rfl⟩
    go_wp2_with (fail)
    refine (F3 _).mono ?_
    rintro e w' ⟨rfl, rfl⟩
    go_wp2_with (fail)
    go_ret2
    exact ⟨rfl, rfl⟩
theorem zero16 : KM.Zero Tryz.prog 177 (cells 16 0) := by unfold KM.Zero; kernel_rfl
def MulO (a b : Nat) (w : World) (g2 g3 g4 g6 : Nat) (i : Value) (wr : World) : Prop :=
  ∃ (k t : Nat) (u : KW w [⟨g6, cells 16 t, 177⟩, ⟨g4, cells 8 0, 24⟩, ⟨g3, cells 8 b, 24⟩, ⟨g2, cells 8 a, 24⟩]), i = .int .i64 k ∧ k ≤ 8 ∧ wr = u.w ∧ Hid (ProdW a b k t)
def MulI (a b k : Nat) (w : World) (g2 g3 g4 g6 : Nat) (c i : Value) (wr : World) : Prop :=
  ∃ (j n t : Nat) (u : KW w [⟨g6, cells 16 t, 177⟩, ⟨g4, cells 8 0, 24⟩, ⟨g3, cells 8 b, 24⟩, ⟨g2, cells 8 a, 24⟩]), i = .int .i64 j ∧ j ≤ 8 ∧ c = .int .u64 n ∧ wr = u.w ∧ Hid (RowW a b k j t n)
def MulE (a b t : Nat) (w : World) (g2 g3 g4 g6 g10 g11 : Nat) (i : Value) (wr : World) : Prop :=
  ∃ (k : Nat) (u : KW w [⟨g11, cells 8 (t / M % B ^ k), 24⟩, ⟨g10, cells 8 (t % B ^ k), 24⟩, ⟨g6, cells 16 t, 177⟩, ⟨g4, cells 8 0, 24⟩, ⟨g3, cells 8 b, 24⟩, ⟨g2, cells 8 a, 24⟩]), i = .int .i64 k ∧ k ≤ 8 ∧ wr = u.w
set_option maxRecDepth 100000 in
set_option maxHeartbeats 1600000 in
theorem wmul_any (a b : Nat) (ha : Hid (a < M)) (hb : Hid (b < M)) (w : World) : Calls Tryz.prog 119 #[wv a, wv b] w (Ret (.tuple #[wv (low (a * b)), .bool (fitB (a * b))]) w) := by
  unfold wv
  refine enter fun u => ?_
  go_enter Tryz.func119, Tryz.ntmps119
  go_wp2_with (first | ((with_reducible apply list_box); exact rfl; intro _ _) | ((with_reducible apply list_alloc); exact zeroW; intro _ _) | ((with_reducible apply list_alloc); exact zero16; intro _ _))
  rename_i g2 u2 g3 u3 g4 u4 g6 u6 _ _
  go_loopw [13] (MulO a b w g2 g3 g4 g6) (fun i _ => 8 - (intOf i).toNat)
  case atStart => exact ⟨0, 0, u6, rfl, by decide, rfl, Lib.hid (ProdW.start a b)⟩
  case round =>
    obtain ⟨k, t, u, rfl, hk, rfl, hP⟩ := hrel
    clear u2 u3 u4 u6
    by_cases hk8 : k < 8
    · obtain ⟨x, hx⟩ : ∃ x, Hid (wd a k = x) := ⟨_, Lib.hid rfl⟩
      have hxb : x < B := by rw [← hx.out]; exact wd_lt a k
      have hc1 := cells_at hk8 hx.out
      have hk8i : (k : Int) < 8 := by omega
      have hk0i : (0 : Int) ≤ k := by omega
      by_cases h0 : x = 0
      · subst h0
        have HN := Lib.hid (hP.out.skip hx.out)
        clear hxb
        go_wp2_with (fail)
        go_roundw
        case rel => exact ⟨k + 1, t, u, by go_num, by omega, rfl, HN⟩
        case measure => simp [intOf]; omega
      · have hq := bq_no (show ¬ (x : Int) = 0 from by omega)
        have HR := Lib.hid (hP.out.row hb.out)
        clear h0 hP
        go_wp2_with (fail)
        obtain ⟨wo, hwo⟩ : ∃ wo : World, Hid (wo = u.w) := ⟨_, Lib.hid rfl⟩
        rw [← hwo.out]
        go_loopw [8, 20] (MulI a b k w g2 g3 g4 g6) (fun _ i _ => 8 - (intOf i).toNat)
        case atStart => exact ⟨0, 0, t, u, rfl, by decide, rfl, hwo.out, HR⟩
        case round =>
          clear HR hwo u
          obtain ⟨j, n, t, u, rfl, hj, rfl, rfl, hR⟩ := hrel
          by_cases hj8 : j < 8
          · obtain ⟨y, hy⟩ : ∃ y, Hid (wd b j = y) := ⟨_, Lib.hid rfl⟩
            obtain ⟨z, hz⟩ : ∃ z, Hid (wd t (k + j) = z) := ⟨_, Lib.hid rfl⟩
            have hyb : y < B := by rw [← hy.out]; exact wd_lt b j
            have hzb : z < B := by rw [← hz.out]; exact wd_lt t (k + j)
            have hc2 := cells_at hj8 hy.out
            have hkj : k + j < 16 := by omega
            have hc3 := cells_at hkj hz.out
            obtain ⟨l, h, HL, hF⟩ := mulAdd_fix x y z n hxb hyb hzb hR.out.1
            have hlb : l < B := HL.out.1
            have HN : Hid (RowW a b k (j + 1) (put t (k + j) l) h) := Lib.hid (hR.out.next hj8 hlb HL.out.2.1 (by rw [hx.out, hy.out, hz.out]; exact HL.out.2.2))
            have hj8i : (j : Int) < 8 := by omega
            have hj0i : (0 : Int) ≤ j := by omega
            clear hyb hzb
            obtain ⟨u3, hu3⟩ := u.ex_put (j := k + j) (v := .int .u64 (l : Nat)) (cells_set hlb)
            have HU := Lib.hid hu3
            clear hu3
            have hw1 : IntKind.i64.wrap ((k : Int) + j) = (k : Int) + j := by rw [IntKind.wrap_i64]; omega
            have hw2 : (0 : Int) ≤ (k : Int) + j := by omega
            have hw3 : (k : Int) + j < 16 := by omega
            have hw4 : ((k : Int) + j).toNat = k + j := by omega
            go_wp2_with (fail)
            go_region_with (go_at_call 149; refine (hF _).mono ?_; rintro e w' ⟨rfl, rfl⟩)
            all_goals clear hw1 hw2 hw3 hw4
            all_goals go_wp2_with (fail)
            all_goals
              go_roundw
              case rel => exact ⟨j + 1, h, _, u3.drew, by go_num, by omega, rfl, by rw [HU.out]; rfl, HN⟩
              case measure => simp [intOf]; omega
          · obtain rfl : j = 8 := by omega
            have HN := Lib.hid (hR.out.over hb.out)
            have hnb := hR.out.1
            obtain ⟨u3, hu3⟩ := u.ex_put (j := k + 8) (v := .int .u64 (n : Nat)) (cells_set hnb)
            have HU := Lib.hid hu3
            clear hu3 hnb
            have hk16 : k + 8 < 16 := by omega
            go_wp2_with (fail)
            go_roundw
            case rel => exact ⟨k + 1, _, u3, by go_num, by omega, HU.out, HN⟩
            case measure => simp [intOf]; omega
    · obtain rfl : k = 8 := by omega
      obtain ⟨p, hp⟩ : ∃ p, Hid (p = a * b) := ⟨_, Lib.hid rfl⟩
      obtain rfl : t = p := by rw [hP.out.over ha.out, hp.out]
      have hL : Hid (low (a * b) = t % B ^ 8) := Lib.hid (by rw [← hp.out]; rfl)
      go_wp2_with (first | ((with_reducible apply list_alloc); exact zeroW; intro _ _))
      rename_i g10 u10 g11 u11 _ _
      go_loopw [49] (MulE a b t w g2 g3 g4 g6 g10 g11) (fun i _ => 8 - (intOf i).toNat)
      case atStart =>
        have e1 : t / M % B ^ 0 = 0 := by simp [Nat.mod_one]
        have e2 : t % B ^ 0 = 0 := by simp [Nat.mod_one]
        have HX : ∃ u : KW w [⟨g11, cells 8 (t / M % B ^ 0), 24⟩, ⟨g10, cells 8 (t % B ^ 0), 24⟩, ⟨g6, cells 16 t, 177⟩, ⟨g4, cells 8 0, 24⟩, ⟨g3, cells 8 b, 24⟩, ⟨g2, cells 8 a, 24⟩], u11.w = u.w := by rw [e1, e2]; exact ⟨u11, rfl⟩
        obtain ⟨u', hu'⟩ := HX
        exact ⟨0, u', rfl, by decide, hu'⟩
      case round =>
        clear u10 u11 u
        obtain ⟨k, u, rfl, hk, rfl⟩ := hrel
        by_cases hk8 : k < 8
        · obtain ⟨x, hx⟩ : ∃ x, Hid (wd t k = x) := ⟨_, Lib.hid rfl⟩
          obtain ⟨y, hy⟩ : ∃ y, Hid (wd t (k + 8) = y) := ⟨_, Lib.hid rfl⟩
          have hk16 : k < 16 := by omega
          have hk816 : k + 8 < 16 := by omega
          have hc1 := cells_at hk16 hx.out
          have hc2 := cells_at hk816 hy.out
          have hxb : x < B := by rw [← hx.out]; exact wd_lt t k
          have hyb : y < B := by rw [← hy.out]; exact wd_lt t (k + 8)
          obtain ⟨u1, hu1⟩ := u.ex_put1 (j := k) (v := .int .u64 (x : Nat)) (c' := cells 8 (t % B ^ (k + 1))) (by rw [cells_set hxb, ← hx.out, part_step])
          obtain ⟨u2, hu2⟩ := u1.ex_put (j := k) (v := .int .u64 (y : Nat)) (c' := cells 8 (t / M % B ^ (k + 1))) (by rw [cells_set hyb, ← hy.out, wd_high, part_step])
          have s1 : u.w.cell? ⟨g6, k, none⟩ = some (.int .u64 (x : Nat)) := by simp [hk16, hc1]
          have s2 : u.w.cell? ⟨g6, k + 8, none⟩ = some (.int .u64 (y : Nat)) := by simp [hk816, hc2]
          have s3 : (u.w.setCell ⟨g10, k, none⟩ (.int .u64 (x : Nat))).cell? ⟨g6, k, none⟩ = some (.int .u64 (x : Nat)) := by rw [hu1]; simp [hk16, hc1]
          have s4 : (u.w.setCell ⟨g10, k, none⟩ (.int .u64 (x : Nat))).cell? ⟨g6, k + 8, none⟩ = some (.int .u64 (y : Nat)) := by rw [hu1]; simp [hk816, hc2]
          have s5 : ((u.w.setCell ⟨g10, k, none⟩ (.int .u64 (x : Nat))).setCell ⟨g11, k, none⟩ (.int .u64 (y : Nat))).cell? ⟨g6, k, none⟩ = some (.int .u64 (x : Nat)) := by rw [hu1, hu2]; simp [hk16, hc1]
          have s6 : ((u.w.setCell ⟨g10, k, none⟩ (.int .u64 (x : Nat))).setCell ⟨g11, k, none⟩ (.int .u64 (y : Nat))).cell? ⟨g6, k + 8, none⟩ = some (.int .u64 (y : Nat)) := by rw [hu1, hu2]; simp [hk816, hc2]
          have f1 : (u.w.setCell ⟨g10, k, none⟩ (.int .u64 (x : Nat))).frozen? ⟨g11, k, none⟩ = false := by rw [hu1]; simp
          have f2 : ∃ v, (u.w.setCell ⟨g10, k, none⟩ (.int .u64 (x : Nat))).cell? ⟨g11, k, none⟩ = some v := by rw [hu1]; simp [hk8]
          obtain ⟨v2, f2⟩ := f2
          have HU := Lib.hid (show ((u.w.setCell ⟨g10, k, none⟩ (.int .u64 (x : Nat))).setCell ⟨g11, k, none⟩ (.int .u64 (y : Nat))) = u2.w by rw [hu1, hu2])
          clear hu1 hu2 hxb hyb
          have hk8i : (k : Int) < 8 := by omega
          have hk16i : (k : Int) < 16 := by omega
          have hk0i : (0 : Int) ≤ k := by omega
          have hw1 : IntKind.i64.wrap ((k : Int) + 8) = (k : Int) + 8 := by rw [IntKind.wrap_i64]; omega
          have hw2 : (0 : Int) ≤ (k : Int) + 8 := by omega
          have hw3 : (k : Int) + 8 < 16 := by omega
          have hw4 : ((k : Int) + 8).toNat = k + 8 := by omega
          go_wp2_with (fail)
          go_region_held3 (fun w' => w'.cell? ⟨g6, k, none⟩ = some (.int .u64 (x : Nat)) ∧ w'.cell? ⟨g6, k + 8, none⟩ = some (.int .u64 (y : Nat))) (first | exact ⟨s1, s2⟩ | exact ⟨s3, s4⟩ | exact ⟨s5, s6⟩) (fail)
          all_goals clear hw1 hw2 hw3 hw4
          all_goals go_wp2_with (fail)
          all_goals
            go_roundw
            case rel => exact ⟨k + 1, u2.drew, by go_num, by omega, by rw [HU.out]; rfl⟩
            case measure => simp [intOf]; omega
        · obtain rfl : k = 8 := by omega
          have hth : t / M < M := by
            have := Nat.mul_lt_mul_of_lt_of_le ha.out (Nat.le_of_lt hb.out) M_pos
            rw [← hp.out] at this
            exact Nat.div_lt_of_lt_mul this
          have HM : t / M % B ^ 8 = t / M := Nat.mod_eq_of_lt hth
          have HF : Hid (eqB (t / M % B ^ 8) 0 = fitB (a * b)) := Lib.hid (by rw [HM, ← hp.out]; exact high_zero)
          have hth2 : t / M % B ^ 8 < M := by rw [HM]; exact hth
          clear HM hth
          go_wp2_with (fail)
          refine region_tail 3 (by kernel_rfl) (by kernel_rfl) fun _ => ?_
          simp only [List.take_succ_cons, List.take_zero, List.drop_succ_cons, List.drop_zero]
          repeat (go_big_quiet_step ((exact call (zero_any _ hth2) _)))
          refine wpQuiet_nil ?_
          rintro _ ⟨u', rfl⟩
          go_wp2_with (first | ((with_reducible apply lst_store); exact rfl; exact rfl; infer_instance; exact rowW; exact cells_size _ _; exact cells_size _ _; exact cells_one _ _; intro _))
          refine body_cell_tmp Tryz.results119 rfl rfl rowW (cells_size _ _) ⟨?_, KW.below _⟩
          rw [hL.out, ← HF.out]
          rfl
end Go.Proofs.YtacicfmalhhceaaGreatDoor.WideW

/- package wide: how numbers compare, how long they are, their bits, shifts. -/
namespace Go.Proofs.YtacicfmalhhceaaGreatDoor.WideW
open Go.RowKit
open DigM WideM WideV KM DigW
def CmpRel (a b : Nat) (w : World) (g2 g3 : Nat) (i : Value) (wr : World) : Prop :=
  ∃ (m : Nat) (u : KW w [⟨g3, cells 8 b, 24⟩, ⟨g2, cells 8 a, 24⟩]), i = .int .i64 ((m : Int) - 1) ∧ m ≤ 8 ∧ wr = u.w ∧ Hid (a / B ^ m = b / B ^ m)
set_option maxHeartbeats 800000 in
theorem wcmp_any (a b : Nat) (ha : Hid (a < M)) (hb : Hid (b < M)) (w : World) : Calls Tryz.prog 58 #[wv a, wv b] w (Ret (.int .i64 (cmpI a b)) w) := by
  unfold wv
  refine enter fun u => ?_
  go_enter Tryz.func58, Tryz.ntmps58
  go_wp2_with (first | ((with_reducible apply list_box); exact rfl; intro _ _))
  rename_i g2 u2 g3 u3 _ _
  go_loopw [5] (CmpRel a b w g2 g3) (fun i _ => (intOf i + 1).toNat)
  case atStart => exact ⟨8, u3, rfl, by decide, rfl, Lib.hid (by rw [Nat.div_eq_of_lt (show a < B ^ 8 from ha.out), Nat.div_eq_of_lt (show b < B ^ 8 from hb.out)])⟩
  case round =>
    clear u2 u3
    obtain ⟨m, u, rfl, hm, rfl, hE⟩ := hrel
    cases m with
    | zero =>
      have HE : Hid (a = b) := Lib.hid (by have := hE.out; simpa using this)
      go_wp2_with (fail)
      go_ret
      exact ⟨ret_int (by rw [HE.out, cmpI_eq]), KW.below _⟩
    | succ j =>
      have ej : ((j + 1 : Nat) : Int) - 1 = j := by omega
      rw [ej]
      clear ej
      have hj8 : j < 8 := by omega
      obtain ⟨x, hx⟩ : ∃ x, Hid (wd a j = x) := ⟨_, Lib.hid rfl⟩
      obtain ⟨y, hy⟩ : ∃ y, Hid (wd b j = y) := ⟨_, Lib.hid rfl⟩
      have hc1 := cells_at hj8 hx.out
      have hc2 := cells_at hj8 hy.out
      have hj8i : (j : Int) < 8 := by omega
      have hj0i : (0 : Int) ≤ j := by omega
      rcases Nat.lt_trichotomy x y with h | h | h
      · have HN : Hid (cmpI a b = -1) := Lib.hid (cmpI_lt (top_lt hE.out (by rw [hx.out, hy.out]; exact h)))
        go_wp2_with (fail)
        refine region (by kernel_rfl) (by kernel_rfl) fun _ => ?_
        repeat (go_big_quiet_step (fail))
        refine wpQuiet_nil ?_
        rintro _ ⟨u', rfl⟩
        go_wp2_with (fail)
        go_ret
        exact ⟨ret_int (by rw [HN.out]), KW.below _⟩
      · subst h
        have HN := Lib.hid (top_step hE.out (by rw [hx.out, hy.out]))
        go_wp2_with (fail)
        refine region (by kernel_rfl) (by kernel_rfl) fun _ => ?_
        repeat (go_big_quiet_step (fail))
        refine wpQuiet_nil ?_
        rintro _ ⟨u', rfl⟩
        go_wp2_with (fail)
        refine region (by kernel_rfl) (by kernel_rfl) fun _ => ?_
        repeat (go_big_quiet_step (fail))
        refine wpQuiet_nil ?_
        rintro _ ⟨u', rfl⟩
        go_wp2_with (fail)
        go_roundw
        case rel => exact ⟨j, u', by go_num, by omega, rfl, HN⟩
        case measure => simp [intOf]
      · have HN : Hid (cmpI a b = 1) := Lib.hid (cmpI_gt (top_lt hE.out.symm (by rw [hx.out, hy.out]; exact h)))
        have hq : decide (x < y) = false := by simp; omega
        go_wp2_with (fail)
        refine region (by kernel_rfl) (by kernel_rfl) fun _ => ?_
        repeat (go_big_quiet_step (fail))
        refine wpQuiet_nil ?_
        rintro _ ⟨u', rfl⟩
        go_wp2_with (fail)
        refine region (by kernel_rfl) (by kernel_rfl) fun _ => ?_
        repeat (go_big_quiet_step (fail))
        refine wpQuiet_nil ?_
        rintro _ ⟨u', rfl⟩
        go_wp2_with (fail)
        go_ret
        exact ⟨ret_int (by rw [HN.out]), KW.below _⟩
def LenRel (a : Nat) (w : World) (g1 : Nat) (i : Value) (wr : World) : Prop :=
  ∃ (m : Nat) (u : KW w [⟨g1, cells 8 a, 24⟩]), i = .int .i64 ((m : Int) - 1) ∧ m ≤ 8 ∧ wr = u.w ∧ Hid (a / B ^ m = 0)
set_option maxHeartbeats 800000 in
theorem wlen8_any (a : Nat) (ha : Hid (a < M)) (w : World) : Calls Tryz.prog 65 #[wv a] w (Ret (.int .i64 (bl a : Nat)) w) := by
  unfold wv
  refine enter fun u => ?_
  go_enter Tryz.func65, Tryz.ntmps65
  go_wp2_with (first | ((with_reducible apply list_box); exact rfl; intro _ _))
  rename_i g1 u1 _ _
  go_loopw [3] (LenRel a w g1) (fun i _ => (intOf i + 1).toNat)
  case atStart => exact ⟨8, u1, rfl, by decide, rfl, Lib.hid (Nat.div_eq_of_lt (show a < B ^ 8 from ha.out))⟩
  case round =>
    clear u1
    obtain ⟨m, u, rfl, hm, rfl, hE⟩ := hrel
    cases m with
    | zero =>
      have HE : Hid (bl a = 0) := Lib.hid (bl_zero hE.out)
      go_wp2_with (fail)
      go_ret
      exact ⟨ret_int (by rw [HE.out]; rfl), KW.below _⟩
    | succ j =>
      have ej : ((j + 1 : Nat) : Int) - 1 = j := by omega
      rw [ej]
      clear ej
      have hj8 : j < 8 := by omega
      obtain ⟨x, hx⟩ : ∃ x, Hid (wd a j = x) := ⟨_, Lib.hid rfl⟩
      have hc1 := cells_at hj8 hx.out
      have hj8i : (j : Int) < 8 := by omega
      have hj0i : (0 : Int) ≤ j := by omega
      by_cases h0 : x = 0
      · subst h0
        have HN : Hid (a / B ^ j = 0) := Lib.hid (by have := top_step (a := a) (b := 0) (j := j) (by rw [hE.out]; simp) (by rw [hx.out]; simp [wd]); rw [this]; simp)
        go_wp2_with (fail)
        go_roundw
        case rel => exact ⟨j, u, by go_num, by omega, rfl, HN⟩
        case measure => simp [intOf]
      · have hq := bn_yes (show ¬ (x : Int) = 0 from by omega)
        have hxb : Hid (x < 18446744073709551616) := Lib.hid (by rw [← hx.out]; exact wd_lt' a j)
        have H0 := Lib.hid h0
        clear h0
        go_wp2_with (fail)
        refine (wlen_any x _ hxb).mono ?_
        rintro e w' ⟨k, rfl, hk, hk64, rfl⟩
        have HN : Hid (bl a = 64 * j + k) := Lib.hid (bl_top hE.out (by rw [hx.out]; exact hk.out) (by rw [hx.out]; exact H0.out))
        go_wp2_with (fail)
        go_ret
        exact ⟨ret_int (by rw [HN.out]; omega), KW.below _⟩
theorem i64_and63 (n : Int) : bits .and .i64 n 63 = n % 64 := by
  have h63 : (BitVec.ofInt 64 63).toNat = 2 ^ 6 - 1 := by decide
  have key : (BitVec.ofInt 64 n &&& BitVec.ofInt 64 63).toNat = (n % ((2 ^ 64 : Nat) : Int)).toNat % 2 ^ 6 := by
    rw [BitVec.toNat_and, BitVec.toNat_ofInt, h63, Nat.and_two_pow_sub_one_eq_mod]
  show IntKind.i64.wrap ((BitVec.ofInt 64 n &&& BitVec.ofInt 64 63).toNat : Nat) = n % 64
  rw [key, IntKind.wrap_i64]
  omega
theorem lowBit (x r : Nat) (hx : x < 18446744073709551616) : (bits .and .u64 ((x : Int) / 2 ^ r) 1 == 1) = decide (x / 2 ^ r % 2 = 1) := by
  have e : (x : Int) / 2 ^ r = ((x / 2 ^ r : Nat) : Int) := by rw [Int.natCast_ediv, Int.natCast_pow]; rfl
  have hle := Nat.div_le_self x (2 ^ r)
  rw [e]
  have h := u64_and_nat (x / 2 ^ r) 1 (by omega) (by decide)
  rw [Nat.and_one_is_mod] at h
  rw [show ((1 : Nat) : Int) = 1 from rfl] at h
  rw [h, Bool.eq_iff_iff, beq_iff_eq, decide_eq_true_eq]
  omega
end Go.Proofs.YtacicfmalhhceaaGreatDoor.WideW

/- package wide's shifts. -/
namespace Go.Proofs.YtacicfmalhhceaaGreatDoor.WideW
open Go.RowKit
open DigM WideM WideV KM DigW
theorem or_join (x1 x2 l : Nat) (_h1 : x1 < B) (h2 : x2 < B) : bits .or .u64 (IntKind.u64.wrap ((x1 : Int) * 2 ^ l)) ((x2 : Int) / 2 ^ (64 - l)) = (((x1 * 2 ^ l) % 2 ^ 64 ||| x2 / 2 ^ (64 - l) : Nat) : Int) := by
  have e1 : IntKind.u64.wrap ((x1 : Int) * 2 ^ l) = (((x1 * 2 ^ l) % 2 ^ 64 : Nat) : Int) := by
    rw [IntKind.wrap_u64, Int.natCast_emod, Int.natCast_mul, Int.natCast_pow]; rfl
  have e2 : (x2 : Int) / 2 ^ (64 - l) = ((x2 / 2 ^ (64 - l) : Nat) : Int) := by rw [Int.natCast_ediv, Int.natCast_pow]; rfl
  rw [e1, e2]
  have hm := Nat.mod_lt (x1 * 2 ^ l) (show 0 < 2 ^ 64 by decide)
  have hd := Nat.div_le_self x2 (2 ^ (64 - l))
  rw [B_eq] at h2
  exact u64_or_nat _ _ hm (by omega)
def ShRel (a : Nat) (z : Int) (w : World) (g2 g4 g7 : Nat) (i : Value) (wr : World) : Prop :=
  ∃ (k : Nat) (u : KW w [⟨g7, cells 8 (shN a z % B ^ k), 24⟩, ⟨g4, cells 8 0, 24⟩, ⟨g2, cells 8 a, 24⟩]), i = .int .i64 k ∧ k ≤ 8 ∧ wr = u.w
set_option maxHeartbeats 1600000 in
theorem wshift_any (a : Nat) (z : Int) (h1 : -9223372036854775808 ≤ z) (h2 : z ≤ 9223372036854775807) (ha : Hid (a < M)) (w : World) : Calls Tryz.prog 91 #[wv a, .int .i64 z] w (Ret (wv (shN a z)) w) := by
  obtain ⟨l, hl⟩ : ∃ l : Nat, z % 64 = l := ⟨(z % 64).toNat, by omega⟩
  have hl64 : l < 64 := by omega
  obtain ⟨q, hq⟩ : ∃ q : Int, z / 64 = q := ⟨_, rfl⟩
  have hq1 : -144115188075855872 ≤ q := by omega
  have hq2 : q ≤ 144115188075855872 := by omega
  have hand : bits .and .i64 z 63 = (l : Int) := by rw [i64_and63, hl]
  have HL := Lib.hid hl
  have HQ := Lib.hid hq
  clear hl
  unfold wv
  refine enter fun u => ?_
  go_enter Tryz.func91, Tryz.ntmps91
  go_wp2_with (first | ((with_reducible apply list_box); exact rfl; intro _ _) | ((with_reducible apply list_alloc); exact zeroW; intro _ _))
  rename_i g2 u2 g4 u4 g7 u7 _ _
  clear hq
  go_loopw [13] (ShRel a z w g2 g4 g7) (fun i _ => 8 - (intOf i).toNat)
  case atStart =>
    have e : shN a z % B ^ 0 = 0 := by simp [Nat.mod_one]
    have HX : ∃ u : KW w [⟨g7, cells 8 (shN a z % B ^ 0), 24⟩, ⟨g4, cells 8 0, 24⟩, ⟨g2, cells 8 a, 24⟩], u7.w = u.w := by rw [e]; exact ⟨u7, rfl⟩
    obtain ⟨u', hu'⟩ := HX
    exact ⟨0, u', rfl, by decide, hu'⟩
  case round =>
    clear u2 u4 u7
    obtain ⟨k, u, rfl, hk, rfl⟩ := hrel
    by_cases hk8 : k < 8
    · obtain ⟨x1, hx1⟩ : ∃ x, wz a ((k : Int) - q) = x := ⟨_, rfl⟩
      obtain ⟨x2, hx2⟩ : ∃ x, wz a ((k : Int) - q - 1) = x := ⟨_, rfl⟩
      have F1 := fun w => wordAt_any a ((k : Int) - q) (by omega) (by omega) w
      have F2 := fun w => wordAt_any a ((k : Int) - q - 1) (by omega) (by omega) w
      rw [hx1] at F1
      rw [hx2] at F2
      have HW : Hid (wd (shN a z) k = (x1 * 2 ^ l) % 2 ^ 64 ||| x2 / 2 ^ (64 - l)) := Lib.hid (by
        have := HQ.out
        subst this
        exact sh_word ha.out z hk8 HL.out hx1 hx2)
      obtain ⟨x, hx⟩ : ∃ x, wd (shN a z) k = x := ⟨_, rfl⟩
      have hxb : x < B := by rw [← hx]; exact wd_lt _ _
      have HV : Hid (bits .or .u64 (IntKind.u64.wrap ((x1 : Int) * 2 ^ l)) ((x2 : Int) / 2 ^ (64 - l)) = (x : Int)) := Lib.hid (by
        rw [or_join x1 x2 l (by rw [← hx1]; exact wz_lt _ _) (by rw [← hx2]; exact wz_lt _ _), ← HW.out, hx])
      have HXB := Lib.hid hxb
      have HX := Lib.hid hx
      clear hx hxb HW
      have HF1 := Lib.hid F1
      have HF2 := Lib.hid F2
      clear F1 F2 hx1 hx2
      have hk8i : (k : Int) < 8 := by omega
      have hk0i : (0 : Int) ≤ k := by omega
      have hl64i : (l : Int) < 64 := by omega
      have hl0i : (0 : Int) ≤ l := by omega
      have hw1 : IntKind.i64.wrap ((k : Int) - q) = (k : Int) - q := by rw [IntKind.wrap_i64]; omega
      have hw2 : IntKind.i64.wrap ((k : Int) - q - 1) = (k : Int) - q - 1 := by rw [IntKind.wrap_i64]; omega
      have hw3 : IntKind.i64.wrap (64 - (l : Int)) = 64 - (l : Int) := by rw [IntKind.wrap_i64]; omega
      go_wp2_with (fail)
      refine region_tail 19 (by kernel_rfl) (by kernel_rfl) fun _ => ?_
      simp only [List.take_succ_cons, List.take_zero, List.drop_succ_cons, List.drop_zero]
      repeat (go_big_quiet_step (first | (with_reducible exact call HF1.out _) | (with_reducible exact call HF2.out _)))
      refine wpQuiet_nil ?_
      rintro _ ⟨u', rfl⟩
      rw [HV.out]
      obtain ⟨u3, hu3⟩ := u'.ex_put (j := k) (v := .int .u64 (x : Nat)) (c' := cells 8 (shN a z % B ^ (k + 1))) (by rw [cells_set HXB.out, ← HX.out, part_step])
      have HU := Lib.hid hu3
      clear hu3 hw1 hw2 hw3
      go_wp2_with (fail)
      go_roundw
      case rel => exact ⟨k + 1, u3, by go_num, by omega, HU.out⟩
      case measure => simp [intOf]; omega
    · obtain rfl : k = 8 := by omega
      have HE : Hid (shN a z % B ^ 8 = shN a z) := Lib.hid (Nat.mod_eq_of_lt (shN_lt a z))
      go_wp2_with (first | ((with_reducible apply lst_load); exact rfl; infer_instance; exact rowW; exact cells_size _ _) | ((with_reducible apply lst_store); exact rfl; exact rfl; infer_instance; exact rowW; exact cells_size _ _; exact cells_size _ _; exact cells_one _ _; intro _))
      refine body_cell Tryz.results91 rfl rowW (cells_size _ _) ⟨?_, KW.below _⟩
      rw [HE.out]
end Go.Proofs.YtacicfmalhhceaaGreatDoor.WideW

/- The document's own answers of layer 3: digits, and the number of digits. -/
namespace Go.Proofs.YtacicfmalhhceaaGreatDoor.WideW
open Go.RowKit
open DigM WideM WideV KM DigW
/-- k words' digits -/
def DigK (a k : Nat) (ds : List Nat) : Prop := Digs ds ∧ val ds = a % B ^ k ∧ ds.length = 4 * k
theorem DigK.start (a : Nat) : DigK a 0 [] := ⟨Digs.nil, by simp [val, Nat.mod_one], rfl⟩
theorem DigK.next {a k x : Nat} {ds : List Nat} (h : DigK a k ds) (hx : wd a k = x) : DigK a (k + 1) (ds ++ digits x) := by
  obtain ⟨h1, h2, h3⟩ := h
  have hb : x < 18446744073709551616 := by rw [← hx]; exact wd_lt' a k
  refine ⟨h1.append (digits_good x hb), ?_, ?_⟩
  · rw [val_append, h3, h2, digits_val, mod_step, hx, Bp_dig]
  · rw [List.length_append, h3]
    have : (digits x).length = 4 := rfl
    omega
def DRel (a : Nat) (w : World) (g1 B1 : Nat) (v i : Value) (wr : World) : Prop :=
  ∃ (k : Nat) (ds : List Nat) (u : KW w [⟨g1, cells 8 a, 24⟩]), i = .int .i64 k ∧ k ≤ 8 ∧ wr = u.w ∧ Own B1 u.w v ds ∧ B1 ≤ u.w.heap.size ∧ Hid (DigK a k ds)
def Digits32 (a : Nat) (ds : List Nat) : Prop := Digs ds ∧ val ds = a ∧ ds.length = 32
set_option maxRecDepth 100000 in
set_option maxHeartbeats 1600000 in
theorem digits32_any (a : Nat) (ha : Hid (a < M)) (w : World) : Calls Tryz.prog 68 #[wv a] w (Gives (Digits32 a) w) := by
  obtain ⟨i0, hi, hz0, hz1, hz2⟩ := info_parts infoU
  refine enter fun u => ?_
  go_enter Tryz.func68, Tryz.ntmps68
  go_wp2_with (first | ((with_reducible apply list_box); exact rfl; intro _ _))
  rename_i g1 u1 _ _
  have hg1 : g1 < u1.w.heap.size := u1.lt
  have hW : w.heap.size ≤ u1.w.heap.size := u1.size
  obtain ⟨u2, hu2⟩ := u1.go ((Below.refl _ _).alloc (Nat.le_refl _) (.cells #[] 22))
  have HO : Own u1.w.heap.size u2.w (.slice (some ⟨u1.w.heap.size, 0, none⟩) 0 0) [] := by rw [← hu2]; exact World.ownsRow_made _ _ _ (Nat.le_refl _) (by decide) rfl
  have hB2 : u1.w.heap.size ≤ u2.w.heap.size := by rw [← hu2]; simp
  have HU2 := Lib.hid hu2
  clear hu2
  go_wp2_with (fail)
  go_loopw [3, 4] (DRel a w g1 u1.w.heap.size) (fun _ i _ => 8 - (intOf i).toNat)
  case atStart => exact ⟨0, [], u2, rfl, by decide, HU2.out, HO, hB2, Lib.hid (DigK.start a)⟩
  case round =>
    generalize u1.w.heap.size = B1 at *
    clear u1 u2 HU2 HO hB2
    obtain ⟨k, ds, u, rfl, hk, rfl, hown, hB, hD⟩ := hrel
    have hlen : ds.length ≤ 32 := by rw [hD.out.2.2]; omega
    by_cases hk8 : k < 8
    · obtain ⟨x, hx⟩ : ∃ x, Hid (wd a k = x) := ⟨_, Lib.hid rfl⟩
      have hc1 := cells_at hk8 hx.out
      have hxb : x < 18446744073709551616 := by rw [← hx.out]; exact wd_lt' a k
      have HN := Lib.hid (hD.out.next hx.out)
      have DX := fun w => digits_any x w hxb
      have LX : Hid ((digits x).length = 4) := Lib.hid rfl
      generalize digits x = es at *
      have HLEN := Lib.hid hlen
      clear hxb hlen
      go_wp2_with (fail)
      refine (DX _).mono ?_
      rintro e w2 ⟨v2, ds2, rfl, rfl, o2, b2⟩
      have hown2 := hown.later b2
      obtain ⟨u2, rfl⟩ := u.go b2
      have hB2 : B1 ≤ u2.w.heap.size := by have := b2.size; omega
      obtain ⟨g, o, cap, hv2, hnews⟩ := o2.addr (by rw [LX.out]; decide)
      rw [hv2]
      have HL4 : Hid (ds2.length = 4) := LX
      go_wp2_with (first
        | (at_builtin; refine wpList_append_own _ rfl _ _ 92 rfl B1 22 i0 (.int .u64 0) 1 8 Tryz.underlying92 hi hz0 hz1 hz2 rfl (by decide) _ _ _ rfl hown2 ⟨g, o, none⟩ ds2.length cap (ds2.map (fun d => Value.int .u64 (d : Nat))) rfl ?c0 hnews ?c2 ?c3 ?c4 hB2 ?_))
      case c0 => simp
      case c2 => intro u hu; obtain ⟨d, _, rfl⟩ := List.mem_map.1 hu; rfl
      case c3 => have := HLEN.out; have := HL4.out; unfold maxLen; omega
      case c4 => have := HLEN.out; have := HL4.out; omega
      intro v' w3 hown3 hgrow _
      obtain ⟨u3, hu3⟩ := u2.grown hgrow (fun j hj => (hown2.lt j hj).1) hW (fun e he => by simp at he; subst he; exact hg1)
      have hB3 : B1 ≤ u3.w.heap.size := by rw [← hu3]; have := hgrow.size; omega
      subst hu3
      have HO3 := Lib.hid (Own.two hown3)
      clear hgrow hown3 hown2 hown
      go_wp2_with (fail)
      go_roundw
      case rel => exact ⟨k + 1, _, u3, by go_num, by omega, rfl, HO3.out, hB3, HN⟩
      case measure => simp [intOf]; omega
    · obtain rfl : k = 8 := by omega
      have HE : Hid (Digits32 a ds) := Lib.hid ⟨hD.out.1, by rw [hD.out.2.1]; exact Nat.mod_eq_of_lt (show a < B ^ 8 from ha.out), hD.out.2.2⟩
      go_wp2_with (fail)
      go_ret
      exact ⟨_, ds, rfl, HE.out, hown.mono hW, u.below⟩
end Go.Proofs.YtacicfmalhhceaaGreatDoor.WideW

/- The document's own number of digits, difference, order and shift of layer 3. -/
namespace Go.Proofs.YtacicfmalhhceaaGreatDoor.WideW
open Go.RowKit
open DigM WideM WideV KM DigW
theorem dg_zero {ds : List Nat} (h : val ds = 0) (j : Nat) : dg ds j = 0 := by
  have := dg_le ds j
  rw [h] at this
  exact (Nat.mul_eq_zero.1 (Nat.le_zero.1 this)).resolve_left (Nat.ne_of_gt (Nat.pow_pos (by decide)))
theorem val_zero : ∀ {ds : List Nat}, (∀ j, dg ds j = 0) → val ds = 0
  | [], _ => rfl
  | d :: ds, h => by
    have h0 : d = 0 := h 0
    have := val_zero (ds := ds) (fun j => h (j + 1))
    simp [val, h0, this]
theorem dg_drop (ds : List Nat) (k j : Nat) : dg (ds.drop k) j = dg ds (k + j) := by
  unfold dg
  simp [List.getD_eq_getElem?_getD, List.getElem?_drop]
theorem fit_digs {ds : List Nat} (hg : Digs ds) : (val ds < M) ↔ ∀ j, 32 ≤ j → dg ds j = 0 := by
  have e := val_drop_div ds 32 hg
  have eM : M = 65536 ^ 32 := by rw [M, Bp_dig]
  constructor
  · intro h j hj
    rw [eM] at h
    rw [Nat.div_eq_of_lt h] at e
    have := dg_zero e (j - 32)
    rw [dg_drop, show 32 + (j - 32) = j by omega] at this
    exact this
  · intro h
    have hz : val (ds.drop 32) = 0 := val_zero fun j => by rw [dg_drop]; exact h _ (by omega)
    rw [hz] at e
    rw [eM]
    exact (Nat.div_eq_zero_iff_lt (Nat.pow_pos (by decide))).1 e.symm
def WRel (ds : List Nat) (w : World) (g2 g4 : Nat) (i : Value) (wr : World) : Prop :=
  ∃ (k : Nat) (u : KW w [⟨g4, cells 8 (val ds % B ^ k), 24⟩, ⟨g2, cells 8 0, 24⟩]), i = .int .i64 k ∧ k ≤ 8 ∧ wr = u.w
def FRel (ds : List Nat) (w : World) (g2 g4 : Nat) (c i : Value) (wr : World) : Prop :=
  ∃ (m : Nat) (b : Bool) (u : KW w [⟨g4, cells 8 (low (val ds)), 24⟩, ⟨g2, cells 8 0, 24⟩]), i = .int .i64 m ∧ 32 ≤ m ∧ c = .bool b ∧ wr = u.w ∧ Hid (b = true ↔ ∀ j, 32 ≤ j → j < m → dg ds j = 0)
set_option maxHeartbeats 1600000 in
theorem refWide_any (v : Value) (ds : List Nat) (w : World) (hv : Rd w v ds) (hg : Digs ds) (hl : ds.length ≤ 1048576) : Calls Tryz.prog 70 #[v] w (Ret (.tuple #[wv (low (val ds)), .bool (fitB (val ds))]) w) := by
  have RV := hv
  obtain ⟨a0, cap, rfl, hcap, hcell⟩ := hv
  have HCELL := Lib.hid hcell
  clear hcell
  refine enter fun u => ?_
  go_enter Tryz.func70, Tryz.ntmps70
  have h0 := nought
  go_wp2_with (first | ((with_reducible apply list_alloc); exact zeroW; intro _ _) | ((with_reducible apply lst_store); exact rfl; exact rfl; infer_instance; exact rowW; exact cells_size _ _; exact cells_size _ _; exact cells_one _ _; intro _))
  rename_i g2 u2 g4 u3 u4 _ _
  clear h0
  go_loopw [5] (WRel ds w g2 g4) (fun i _ => 8 - (intOf i).toNat)
  case atStart =>
    have e : val ds % B ^ 0 = 0 := by simp [Nat.mod_one]
    have HX : ∃ u : KW w [⟨g4, cells 8 (val ds % B ^ 0), 24⟩, ⟨g2, cells 8 0, 24⟩], u4.w = u.w := by rw [e]; exact ⟨u4, rfl⟩
    obtain ⟨u', hu'⟩ := HX
    exact ⟨0, u', rfl, by decide, hu'⟩
  case round =>
    clear u2 u3 u4
    obtain ⟨k, u, rfl, hk, rfl⟩ := hrel
    by_cases hk8 : k < 8
    · obtain ⟨x, hx⟩ : ∃ x, wordAt ds (4 * k) = x := ⟨_, rfl⟩
      have hwd : wd (val ds) k = x := by rw [← hx, wordAt_eq ds (4 * k) hg, ← Bp_dig]; unfold wd; rw [B_eq]
      have F := word_is _ ds (4 * k) x u.w (RV.later u.below (Nat.le_refl _)) hg (Lib.hid hx) (by omega) (by omega)
      rw [show ((4 * k : Nat) : Int) = 4 * (k : Int) by omega] at F
      obtain ⟨u3, hu3⟩ := u.ex_put (j := k) (v := .int .u64 (x : Nat)) (c' := cells 8 (val ds % B ^ (k + 1))) (by rw [cells_set (by rw [← hwd]; exact wd_lt _ _), ← hwd, part_step])
      have HU := Lib.hid hu3
      have HF := Lib.hid F
      clear hu3 hx hwd F
      go_wp2_with (fail)
      refine HF.out.mono ?_
      rintro e w' ⟨rfl, rfl⟩
      go_wp2_with (fail)
      go_roundw
      case rel => exact ⟨k + 1, u3, by go_num, by omega, HU.out⟩
      case measure => simp [intOf]; omega
    · obtain rfl : k = 8 := by omega
      go_wp2_with (fail)
      obtain ⟨wo, hwo⟩ : ∃ wo : World, Hid (wo = u.w) := ⟨_, Lib.hid rfl⟩
      rw [← hwo.out]
      go_loopw [6, 7] (FRel ds w g2 g4) (fun _ i _ => ds.length - (intOf i).toNat)
      case atStart => exact ⟨32, true, u, rfl, by decide, rfl, hwo.out, Lib.hid ⟨fun _ j h1 h2 => by omega, fun _ => rfl⟩⟩
      case round =>
        clear u hwo
        obtain ⟨m, b, u, rfl, hm, rfl, rfl, hE⟩ := hrel
        by_cases hml : m < ds.length
        · cases b with
          | true =>
            obtain ⟨g, o, rfl, hgs, hc⟩ := HCELL.out m hml
            obtain ⟨x, hx⟩ : ∃ x, Hid (dg ds m = x) := ⟨_, Lib.hid rfl⟩
            rw [hx.out] at hc
            have hc' : u.w.cell? ⟨g, o + m, none⟩ = some (.int .u64 (x : Nat)) := (u.below.cell (p := ⟨g, o + m, none⟩) hgs).trans hc
            clear hc
            by_cases h0 : x = 0
            · subst h0
              have HN : Hid (true = true ↔ ∀ j, 32 ≤ j → j < m + 1 → dg ds j = 0) := Lib.hid ⟨fun _ j h1 h2 => by
                rcases Nat.lt_or_ge j m with h | h
                · exact hE.out.1 rfl j h1 h
                · obtain rfl : j = m := by omega
                  exact hx.out, fun _ => rfl⟩
              go_wp2_with (fail)
              go_roundw
              case rel => exact ⟨m + 1, true, u, by go_num, by omega, rfl, rfl, HN⟩
              case measure => simp [intOf]; omega
            · have hq := bq_no (show ¬ (x : Int) = 0 from by omega)
              have HN : Hid (false = true ↔ ∀ j, 32 ≤ j → j < m + 1 → dg ds j = 0) := Lib.hid ⟨(fun h => by cases h), fun h => absurd (hx.out.symm.trans (h m hm (by omega))) h0⟩
              clear h0
              go_wp2_with (fail)
              go_roundw
              case rel => exact ⟨m + 1, false, u, by go_num, by omega, rfl, rfl, HN⟩
              case measure => simp [intOf]; omega
          | false =>
            have HN : Hid (false = true ↔ ∀ j, 32 ≤ j → j < m + 1 → dg ds j = 0) := Lib.hid ⟨(fun h => by cases h), fun h => hE.out.2 fun j h1 h2 => h j h1 (by omega)⟩
            go_wp2_with (fail)
            go_roundw
            case rel => exact ⟨m + 1, false, u, by go_num, by omega, rfl, rfl, HN⟩
            case measure => simp [intOf]; omega
        · have HB : Hid (b = fitB (val ds)) := Lib.hid (by
            rw [Bool.eq_iff_iff, hE.out, fitB, decide_eq_true_eq, fit_digs hg]
            refine ⟨fun h j hj => ?_, fun h j hj _ => h j hj⟩
            rcases Nat.lt_or_ge j m with h' | h'
            · exact h j hj h'
            · exact dg_ge (by omega))
          go_wp2_with (first | ((with_reducible apply lst_load); exact rfl; infer_instance; exact rowW; exact cells_size _ _) | ((with_reducible apply lst_store); exact rfl; exact rfl; infer_instance; exact rowW; exact cells_size _ _; exact cells_size _ _; exact cells_one _ _; intro _))
          refine body_cell_tmp Tryz.results70 rfl rfl rowW (cells_size _ _) ⟨?_, KW.below _⟩
          rw [← HB.out]
          rfl
end Go.Proofs.YtacicfmalhhceaaGreatDoor.WideW

/- Arguments of layer 3, handed in as data: rows of eight words are numbers. -/
namespace WideA
open Go WideM WideV
theorem wide_of {zs : List Int} (hl : zs.length = 8) (hw : ∀ z ∈ zs, (Lit.int .u64 z).wf = true) : ∃ a, a < M ∧ (zs.map (Value.int .u64)).toArray = cells 8 a := by
  obtain ⟨ws, rfl, hb⟩ : ∃ ws : List Nat, zs = ws.map (fun (x : Nat) => (x : Int)) ∧ ∀ x ∈ ws, x < B := by
    refine ⟨zs.map Int.toNat, ?_, fun x hx => ?_⟩
    · rw [List.map_map]
      apply List.ext_getElem (by simp)
      intro i h1 h2
      obtain ⟨c, hc, _⟩ := SnClose.u64_of (hw _ (List.getElem_mem h1))
      simp [hc]
    · obtain ⟨z, hz, rfl⟩ := List.mem_map.1 hx
      obtain ⟨c, hc, hlt⟩ := SnClose.u64_of (hw z hz)
      rw [hc, Int.toNat_natCast, B_eq]; exact hlt
  obtain ⟨a, ha, hi⟩ := of_words ws hb
  have hl' : ws.length = 8 := by simpa using hl
  rw [hl'] at ha
  refine ⟨a, ha, ?_⟩
  apply Array.ext_getElem?
  intro i
  by_cases h : i < 8
  · rw [cells_get h, ← hi i (by omega)]
    simp [show i < ws.length by omega]
  · rw [Array.getElem?_eq_none (by simp; omega), Array.getElem?_eq_none (by simp; omega)]
theorem u16_of {n : Int} (h : (Lit.int .u16 n).wf = true) : ∃ c : Nat, n = (c : Int) ∧ c < 65536 := by
  simp [Lit.wf, IntKind.min, IntKind.max, IntKind.signed, IntKind.bits] at h
  exact ⟨n.toNat, by omega, by omega⟩
end WideA

/- The division of two words by one, by halves of words: plain mathematics, of no program. -/
namespace DivM
/-- what is known of a divisor with its highest bit set, and of what is divided: u and t, in halves -/
structure Ok (y y1 y0 u t : Nat) : Prop where
  hy : y = y1 * 4294967296 + y0
  h0 : y0 < 4294967296
  h1 : 2147483648 ≤ y1
  h1' : y1 < 4294967296
  hu : u < y
  ht : t < 4294967296
/-- a guess of the quotient, and what is left by its upper half -/
def Guess (y y1 u t q r : Nat) : Prop := q * y1 + r = u ∧ (u * 4294967296 + t) / y ≤ q ∧ q ≤ 4294967297 ∧ r < 4294967296
theorem Ok.pos {y y1 y0 u t : Nat} (h : Ok y y1 y0 u t) : 0 < y := by have := h.hu; omega
theorem Ok.big {y y1 y0 u t : Nat} (h : Ok y y1 y0 u t) : (u * 4294967296 + t) / y < 4294967296 := by
  rw [Nat.div_lt_iff_lt_mul h.pos]
  have := Nat.mul_le_mul_right 4294967296 (show u + 1 ≤ y from h.hu)
  have := h.ht
  rw [Nat.mul_comm 4294967296 y]; omega
theorem Ok.mul {y y1 y0 u t : Nat} (h : Ok y y1 y0 u t) (q : Nat) : q * y = q * y1 * 4294967296 + q * y0 := by
  rw [h.hy, Nat.mul_add, Nat.mul_assoc]
theorem Ok.start {y y1 y0 u t : Nat} (h : Ok y y1 y0 u t) : Guess y y1 u t (u / y1) (u % y1) := by
  have hp : 0 < y1 := by have := h.h1; omega
  have hm := Nat.mod_lt u hp
  have hd := Nat.div_add_mod u y1
  refine ⟨by rw [Nat.mul_comm]; exact hd, ?_, ?_, by have := h.h1'; omega⟩
  · rw [Nat.le_div_iff_mul_le hp]
    have e := Nat.div_mul_le_self (u * 4294967296 + t) y
    rw [h.mul] at e
    have := h.ht
    omega
  · have : u / y1 < 4294967298 := by
      rw [Nat.div_lt_iff_lt_mul hp]
      have := h.hu; have := h.hy; have := h.h0; have := h.h1
      omega
    omega
theorem Guess.less {y y1 y0 u t q r : Nat} (h : Ok y y1 y0 u t) (g : Guess y y1 u t q r) (hT : 4294967296 ≤ q ∨ 4294967296 * r + t < q * y0) : (u * 4294967296 + t) / y < q := by
  rcases hT with hT | hT
  · exact Nat.lt_of_lt_of_le h.big hT
  · rw [Nat.div_lt_iff_lt_mul h.pos, h.mul q]
    have := g.1
    omega
theorem Guess.enough {y y1 y0 u t q r : Nat} (h : Ok y y1 y0 u t) (hq : q * y1 + r = u) (hT : q * y0 ≤ 4294967296 * r + t) : q ≤ (u * 4294967296 + t) / y := by
  rw [Nat.le_div_iff_mul_le h.pos, h.mul q]
  omega
theorem Guess.stop {y y1 y0 u t q r : Nat} (h : Ok y y1 y0 u t) (g : Guess y y1 u t q r) (hT : ¬ (4294967296 ≤ q ∨ 4294967296 * r + t < q * y0)) : q = (u * 4294967296 + t) / y := by
  have a := Guess.enough h g.1 (Nat.le_of_not_lt fun h => hT (Or.inr h))
  have b := g.2.1
  exact Nat.le_antisymm a b
theorem Guess.down {y y1 y0 u t q r : Nat} (h : Ok y y1 y0 u t) (g : Guess y y1 u t q r) (hT : 4294967296 ≤ q ∨ 4294967296 * r + t < q * y0) :
    1 ≤ q ∧ (q - 1) * y1 + (r + y1) = u ∧ q - 1 ≤ 4294967296 ∧ (u * 4294967296 + t) / y ≤ q - 1 := by
  have hl := Guess.less h g hT
  have e : (q - 1) * y1 + y1 = q * y1 := by
    have := Nat.sub_add_cancel (show 1 ≤ q from Nat.lt_of_le_of_lt (Nat.zero_le _) hl)
    conv => rhs; rw [← this, Nat.add_mul, Nat.one_mul]
  have a := g.1
  have b := g.2.2.1
  clear g
  generalize (u * 4294967296 + t) / y = z at *
  exact ⟨by omega, by omega, by omega, by omega⟩
theorem Guess.on {y y1 y0 u t q r : Nat} (h : Ok y y1 y0 u t) (g : Guess y y1 u t q r) (hT : 4294967296 ≤ q ∨ 4294967296 * r + t < q * y0) (hr : r + y1 < 4294967296) : Guess y y1 u t (q - 1) (r + y1) := by
  obtain ⟨a, b, c, d⟩ := Guess.down h g hT
  exact ⟨b, d, by omega, hr⟩
theorem Guess.leave {y y1 y0 u t q r : Nat} (h : Ok y y1 y0 u t) (g : Guess y y1 u t q r) (hT : 4294967296 ≤ q ∨ 4294967296 * r + t < q * y0) (hr : 4294967296 ≤ r + y1) : q - 1 = (u * 4294967296 + t) / y := by
  obtain ⟨a, b, c, d⟩ := Guess.down h g hT
  have e : (q - 1) * y0 ≤ 4294967296 * (r + y1) + t := by
    have h0 := h.h0
    have := Nat.mul_le_mul c (show y0 ≤ 4294967295 by omega)
    omega
  have f := Guess.enough h b e
  exact Nat.le_antisymm f d
/-- sums and products of the test stay within a word -/
theorem Guess.fits {y y1 y0 u t q r : Nat} (h : Ok y y1 y0 u t) (g : Guess y y1 u t q r) (hq : q < 4294967296) : q * y0 ≤ 18446744065119617025 ∧ 4294967296 * r + t ≤ 18446744073709551615 := by
  have h0 := h.h0
  have := Nat.mul_le_mul (show q ≤ 4294967295 by omega) (show y0 ≤ 4294967295 by omega)
  have := g.2.2.2
  have := h.ht
  omega
/-- both halves of the quotient -/
theorem halves (y u a b : Nat) (hp : 0 < y) (_hb : b < 4294967296) :
    ((u * 4294967296 + a) / y) * 4294967296 + ((u * 4294967296 + a) % y * 4294967296 + b) / y = ((u * 4294967296 + a) * 4294967296 + b) / y ∧
    ((u * 4294967296 + a) % y * 4294967296 + b) % y = ((u * 4294967296 + a) * 4294967296 + b) % y := by
  have e : (u * 4294967296 + a) * 4294967296 + b = ((u * 4294967296 + a) % y * 4294967296 + b) + y * ((u * 4294967296 + a) / y * 4294967296) := by
    have := Nat.div_add_mod (u * 4294967296 + a) y
    generalize (u * 4294967296 + a) / y = q at *
    generalize (u * 4294967296 + a) % y = r at *
    rw [← this, Nat.add_mul, Nat.mul_assoc]; omega
  rw [e, Nat.add_mul_div_left _ _ hp, Nat.add_mul_mod_self_left]
  exact ⟨Nat.add_comm _ _, rfl⟩
/-- shifted so that the divisor's highest bit is set: K times L is 2^64 -/
theorem shifted' (M hi lo by' K L : Nat) (hK : 0 < K) (hL : 0 < L) (hKL : K * L = M) (hlt : hi < by') (hlo : lo < M) :
    (hi * K + lo / L) * M + lo * K % M = (hi * M + lo) * K ∧ hi * K + lo / L < by' * K ∧ lo / L < K ∧ hi * K ≤ by' * K := by
  have hlL : lo / L < K := by rw [Nat.div_lt_iff_lt_mul hL, hKL]; exact hlo
  have e := Nat.div_add_mod lo L
  have e2 : lo * K = lo / L * M + lo % L * K := by
    have : lo * K = (L * (lo / L) + lo % L) * K := by rw [e]
    rw [this, Nat.add_mul, ← hKL, Nat.mul_comm L, Nat.mul_assoc, Nat.mul_comm L K]
  have hm : lo % L * K < M := by
    rw [← hKL, Nat.mul_comm K L]
    exact Nat.mul_lt_mul_of_pos_right (Nat.mod_lt _ hL) hK
  have e3 : lo * K % M = lo % L * K := by rw [e2, Nat.add_comm, Nat.mul_comm (lo / L), Nat.add_mul_mod_self_left, Nat.mod_eq_of_lt hm]
  have m1 := Nat.mul_le_mul_right K (show hi + 1 ≤ by' from hlt)
  rw [Nat.add_mul, Nat.one_mul] at m1
  refine ⟨?_, by omega, hlL, by omega⟩
  rw [e3, Nat.add_mul (hi * M), e2, Nat.add_mul, Nat.mul_right_comm hi]
  omega
theorem shifted (hi lo by' K L : Nat) (hK : 0 < K) (hL : 0 < L) (hKL : K * L = 18446744073709551616) (hlt : hi < by') (hlo : lo < 18446744073709551616) :
    (hi * K + lo / L) * 18446744073709551616 + lo * K % 18446744073709551616 = (hi * 18446744073709551616 + lo) * K ∧ hi * K + lo / L < by' * K ∧ lo / L < K ∧ hi * K ≤ by' * K :=
  shifted' _ hi lo by' K L hK hL hKL hlt hlo
end DivM

/- math/bits.Div64 and word's Div: contracts over the translation. -/
namespace Go.Proofs.YtacicfmalhhceaaGreatDoor.DigW
open Go.RowKit
open DigM DivM
def QuotOf (hi lo y : Nat) (w : World) (e : Ending) (w' : World) : Prop :=
  ∃ q r : Nat, e = .returned (.tuple #[.int .u64 q, .int .u64 r]) ∧ Hid (q < 18446744073709551616 ∧ r < y ∧ q * y + r = hi * 18446744073709551616 + lo) ∧ ∃ n, w' = w.drewN n
set_option maxHeartbeats 800000 in
theorem div64_low (lo y : Nat) (w : World) (hy : 0 < y) (hlo : Hid (lo < 18446744073709551616)) (_hy' : Hid (y < 18446744073709551616)) :
    Calls Tryz.prog 132 #[.int .u64 0, .int .u64 lo, .int .u64 y] w (QuotOf 0 lo y w) := by
  have hq0 := bq_no (show ¬ (y : Int) = 0 from by omega)
  have hyI : (1 : Int) ≤ y := by omega
  have HF : Hid (lo / y < 18446744073709551616 ∧ lo % y < y ∧ lo / y * y + lo % y = 0 * 18446744073709551616 + lo) := Lib.hid (by
    refine ⟨Nat.lt_of_le_of_lt (Nat.div_le_self _ _) hlo.out, Nat.mod_lt _ hy, ?_⟩
    rw [Nat.mul_comm, Nat.div_add_mod]; omega)
  go_enter Tryz.func132, Tryz.ntmps132
  go_wp2_with (fail)
  go_quiet (fail)
  go_wp2_with (fail)
  go_ret2
  have e1 : IntKind.u64.wrap ((lo : Int) / (y : Int)) = ((lo / y : Nat) : Int) := by
    rw [← Int.natCast_ediv, IntKind.wrap_u64]
    have := HF.out.1
    generalize lo / y = z at *
    omega
  rw [e1]
  exact ⟨lo / y, lo % y, rfl, HF, nq, rfl⟩
/-- what the walk's words come to, ahead of the loops -/
structure Prep (hi lo y s Y y1 y0 H D u N t1 t0 : Nat) : Prop where
  e1 : IntKind.u64.wrap ((y : Int) * 2 ^ s) = (Y : Int)
  e2 : (Y : Int) / 4294967296 = (y1 : Int)
  e3 : bits BinOp.and IntKind.u64 (Y : Int) 4294967295 = (y0 : Int)
  e4 : IntKind.u64.wrap ((hi : Int) * 2 ^ s) = (H : Int)
  e5 : (lo : Int) / 2 ^ (64 - s) = (D : Int)
  e6 : bits BinOp.or IntKind.u64 (H : Int) (D : Int) = (u : Int)
  e7 : IntKind.u64.wrap ((lo : Int) * 2 ^ s) = (N : Int)
  e8 : (N : Int) / 4294967296 = (t1 : Int)
  e9 : bits BinOp.and IntKind.u64 (N : Int) 4294967295 = (t0 : Int)
  ok : Ok Y y1 y0 u t1
  t0lt : t0 < 4294967296
  hY : Y = y * 2 ^ s
  hN : (u * 4294967296 + t1) * 4294967296 + t0 = (hi * 18446744073709551616 + lo) * 2 ^ s
theorem and_low (a : Nat) (ha : a < 18446744073709551616) : bits .and .u64 (a : Int) 4294967295 = ((a % 4294967296 : Nat) : Int) := Mul64.maskN a ha
theorem prep (hi lo y s : Nat) (hs : s ≤ 63) (h1 : 9223372036854775808 ≤ y * 2 ^ s) (h2 : y * 2 ^ s < 18446744073709551616) (hlt : hi < y) (hlo : lo < 18446744073709551616) :
    ∃ Y y1 y0 H D u N t1 t0 : Nat, Prep hi lo y s Y y1 y0 H D u N t1 t0 := by
  have hKL : 2 ^ s * 2 ^ (64 - s) = 18446744073709551616 := by rw [← Nat.pow_add]; rw [show s + (64 - s) = 64 by omega]
  obtain ⟨f1, f2, f3, f4⟩ := shifted hi lo y (2 ^ s) (2 ^ (64 - s)) (Nat.two_pow_pos _) (Nat.two_pow_pos _) hKL hlt hlo
  have cp : ∀ n : Nat, ((n : Int) * 2 ^ s) = ((n * 2 ^ s : Nat) : Int) := fun n => by rw [Int.natCast_mul, Int.natCast_pow]; rfl
  refine ⟨y * 2 ^ s, y * 2 ^ s / 4294967296, y * 2 ^ s % 4294967296, hi * 2 ^ s, lo / 2 ^ (64 - s), hi * 2 ^ s + lo / 2 ^ (64 - s), lo * 2 ^ s % 18446744073709551616, lo * 2 ^ s % 18446744073709551616 / 4294967296, lo * 2 ^ s % 18446744073709551616 % 4294967296, ?_, ?_, ?_, ?_, ?_, ?_, ?_, ?_, ?_, ?_, ?_, rfl, ?_⟩
  · rw [cp, IntKind.wrap_u64]; omega
  · omega
  · exact and_low _ h2
  · rw [cp, IntKind.wrap_u64]; omega
  · rw [Int.natCast_ediv, Int.natCast_pow]; first | done | rfl
  · have e := bits_or_u64_nat (hi * 2 ^ s) (lo / 2 ^ (64 - s)) (by omega) (by omega)
    rw [e]
    congr 1
    have := Nat.two_pow_add_eq_or_of_lt f3 hi
    rw [Nat.mul_comm (2 ^ s)] at this
    exact this.symm
  · rw [cp, IntKind.wrap_u64]; omega
  · omega
  · exact and_low _ (Nat.mod_lt _ (by decide))
  · exact ⟨by omega, Nat.mod_lt _ (by decide), by omega, by omega, f2, by omega⟩
  · exact Nat.mod_lt _ (by decide)
  · rw [← f1]
    generalize lo * 2 ^ s % 18446744073709551616 = N at *
    generalize hi * 2 ^ s + lo / 2 ^ (64 - s) = U at *
    have := Nat.div_add_mod N 4294967296
    clear hKL cp f1 f2 f3 f4 h1 h2 hlo hlt
    omega
set_option maxHeartbeats 1600000 in
set_option maxRecDepth 100000 in
theorem div64_high (hi lo y : Nat) (w : World) (hhi : 0 < hi) (hlt : hi < y) (hlo : Hid (lo < 18446744073709551616)) (hy' : Hid (y < 18446744073709551616)) :
    Calls Tryz.prog 132 #[.int .u64 hi, .int .u64 lo, .int .u64 y] w (QuotOf hi lo y w) := by
  have hq0 := bq_no (show ¬ (y : Int) = 0 from by omega)
  have hq1 := bq_no (show ¬ (hi : Int) = 0 from by omega)
  have hyI : (1 : Int) ≤ y := by omega
  have hle : Lib.bitLen y ≤ 64 := Lib.bitLen_le y 64 (by decide) (by have := hy'.out; simpa using this)
  have hbl := bitLenAux_BL 64 y (by have := hy'.out; simpa using this)
  have hF := Tryz.bits_LeadingZeros64 y w (by omega) (by have := hy'.out; omega)
  simp only [Int.toNat_natCast] at hF
  obtain ⟨s, hs⟩ : ∃ s : Nat, s = 64 - Lib.bitLen y := ⟨_, rfl⟩
  rw [show (64 - (Lib.bitLen y : Int)) = (s : Int) by omega] at hF
  have hbp : 0 < Lib.bitLen y := by
    apply Nat.pos_of_ne_zero; intro h
    have := hbl.1
    rw [show Lib.bitLenAux 64 y = 0 from h] at this
    simp at this
    omega
  have hs63 : s ≤ 63 := by omega
  have hlow : 9223372036854775808 ≤ y * 2 ^ s ∧ y * 2 ^ s < 18446744073709551616 := by
    obtain ⟨b1, b2⟩ := hbl
    have b2 := b2 hbp
    rw [show Lib.bitLenAux 64 y = Lib.bitLen y from rfl] at b1 b2
    have c1 := Nat.mul_le_mul_right (2 ^ s) b2
    have c2 := Nat.mul_lt_mul_of_pos_right b1 (Nat.two_pow_pos s)
    rw [← Nat.pow_add] at c1 c2
    rw [show Lib.bitLen y - 1 + s = 63 by omega] at c1
    rw [show Lib.bitLen y + s = 64 by omega] at c2
    exact ⟨c1, c2⟩
  obtain ⟨Y, y1, y0, H, D, u, N, t1, t0, hP⟩ := prep hi lo y s hs63 hlow.1 hlow.2 hlt hlo.out
  obtain ⟨e1, e2, e3, e4, e5, e6, e7, e8, e9, ok, ht0, hY, hN⟩ := hP
  have hG := ok.start
  have e10 : IntKind.u64.wrap ((u : Int) / y1) = ((u / y1 : Nat) : Int) := by
    rw [← Int.natCast_ediv, IntKind.wrap_u64]
    have := hG.2.2.1
    clear hG
    generalize u / y1 = z at *
    omega
  have e11 : IntKind.u64.wrap ((u : Int) - IntKind.u64.wrap (((u / y1 : Nat) : Int) * y1)) = ((u % y1 : Nat) : Int) := by
    have h1 := hG.1
    have h2 := ok.hu
    have h3 := ok.hy
    have h4 := ok.h0
    have h5 := ok.h1'
    clear hG e10
    rw [IntKind.wrap_u64, IntKind.wrap_u64, ← Int.natCast_mul]
    generalize u / y1 * y1 = z at *
    generalize u % y1 = z' at *
    omega
  have HG := Lib.hid hG
  clear hG
  generalize u / y1 = Q at *
  generalize u % y1 = R at *
  have hy1I : (2147483648 : Int) ≤ y1 := by have := ok.h1; omega
  have OK := Lib.hid ok
  have HY := Lib.hid hY
  have HN := Lib.hid hN
  have HT := Lib.hid ht0
  clear hs hle hbl hbp hlow ok hY hN ht0
  go_enter Tryz.func132, Tryz.ntmps132
  go_wp2_with (fail)
  refine hF.mono ?_
  rintro e w' ⟨rfl, rfl⟩
  obtain ⟨q1, Q1⟩ : ∃ q1, Hid ((u * 4294967296 + t1) / Y = q1) := ⟨_, Lib.hid rfl⟩
  obtain ⟨wb, rfl⟩ : ∃ wb : World, wb = w' := ⟨_, rfl⟩
  go_upto_block 0 with (fail)
  go_cut [15] from 67 to 85 (fun a wx => a = .int .u64 q1 ∧ wx = wb)
  case first =>
    go_wp2_with (fail)
    go_loopw [15, 16] (fun a b wx => ∃ q r : Nat, a = .int .u64 q ∧ b = .int .u64 r ∧ wx = wb ∧ Hid (Guess Y y1 u t1 q r)) (fun a _ _ => (intOf a).toNat)
    case atStart => exact ⟨Q, R, rfl, rfl, rfl, HG⟩
    case round =>
      obtain ⟨q, r, rfl, rfl, rfl, G⟩ := hrel
      have hr := G.out.2.2.2
      have hq := G.out.2.2.1
      have k1 := OK.out.h1'
      have k3 := OK.out.ht
      by_cases hA : 4294967296 ≤ q
      · have GT := Lib.hid (Or.inl hA : 4294967296 ≤ q ∨ 4294967296 * r + t1 < q * y0)
        by_cases hB : r + y1 < 4294967296
        · have HN := Lib.hid (G.out.on OK.out GT.out hB)
          have hAI : (4294967296 : Int) ≤ q := by omega
          have hBJ : (r : Int) + y1 ≤ 18446744073709551615 := by omega
          have hBD : decide ((4294967296 : Int) ≤ (r : Int) + y1) = false := decide_eq_false (by omega)
          have hqI : (q : Int) ≤ 4294967297 := by omega
          have HH := Lib.hid hA
          clear hA hB hr hq k1 k3
          go_wp2_with (fail)
          go_roundw
          case rel => exact ⟨q - 1, r + y1, vint (by have := HH.out; omega), by go_num, by trivial, HN⟩
          case measure => simp [intOf]; have := HH.out; omega
        · have HN := Lib.hid (G.out.leave OK.out GT.out (by omega))
          have hAI : (4294967296 : Int) ≤ q := by omega
          have hBI : 4294967296 ≤ (r : Int) + y1 := by omega
          have hqI : (q : Int) ≤ 4294967297 := by omega
          have hBJ : (r : Int) + y1 ≤ 18446744073709551615 := by omega
          have HH := Lib.hid hA
          clear hA hB hr hq k1 k3
          go_wp2_with (fail)
          go_meet
          exact ⟨vint (by have := HH.out; rw [← Q1.out, ← HN.out]; clear G GT HN; omega), rfl⟩
      · obtain ⟨m1, m2⟩ := G.out.fits OK.out (by omega)
        have m1I : (q : Int) * y0 ≤ 18446744065119617025 := by rw [← Int.natCast_mul]; omega
        have m0I : 0 ≤ (q : Int) * y0 := by rw [← Int.natCast_mul]; omega
        have m2I : 4294967296 * (r : Int) + t1 ≤ 18446744073709551615 := by omega
        by_cases hC : 4294967296 * r + t1 < q * y0
        · have GT := Lib.hid (Or.inr hC : 4294967296 ≤ q ∨ 4294967296 * r + t1 < q * y0)
          have hd := (G.out.down OK.out GT.out).1
          have hCI : 4294967296 * (r : Int) + t1 < (q : Int) * y0 := by rw [← Int.natCast_mul]; omega
          by_cases hB : r + y1 < 4294967296
          · have HN := Lib.hid (G.out.on OK.out GT.out hB)
            have hAB : decide ((4294967296 : Int) ≤ (q : Int)) = false := decide_eq_false (by omega)
            have hqI : (q : Int) ≤ 4294967297 := by omega
            have hdI : (1 : Int) ≤ q := by omega
            have hBJ : (r : Int) + y1 ≤ 18446744073709551615 := by omega
            have hBD : decide ((4294967296 : Int) ≤ (r : Int) + y1) = false := decide_eq_false (by omega)
            have HH := Lib.hid hd
            clear m1 m2 hC hA hB hr hq k1 k3 hd
            go_wp2_with (fail)
            go_roundw
            case rel => exact ⟨q - 1, r + y1, vint (by have := HH.out; omega), by go_num, by trivial, HN⟩
            case measure => simp [intOf]; have := HH.out; omega
          · have HN := Lib.hid (G.out.leave OK.out GT.out (by omega))
            have hAB : decide ((4294967296 : Int) ≤ (q : Int)) = false := decide_eq_false (by omega)
            have hqI : (q : Int) ≤ 4294967297 := by omega
            have hdI : (1 : Int) ≤ q := by omega
            have hBI : 4294967296 ≤ (r : Int) + y1 := by omega
            have hBJ : (r : Int) + y1 ≤ 18446744073709551615 := by omega
            have HH := Lib.hid hd
            clear m1 m2 hC hA hB hr hq k1 k3 hd
            go_wp2_with (fail)
            go_meet
            exact ⟨vint (by have := HH.out; rw [← Q1.out, ← HN.out]; clear G GT HN; omega), rfl⟩
        · have HN := Lib.hid (G.out.stop OK.out (by omega))
          have hCI : (q : Int) * y0 ≤ 4294967296 * (r : Int) + t1 := by rw [← Int.natCast_mul]; omega
          have hAB : decide ((4294967296 : Int) ≤ (q : Int)) = false := decide_eq_false (by omega)
          have hb2 : decide (4294967296 * (r : Int) + t1 < (q : Int) * y0) = false := decide_eq_false (by omega)
          clear m1 m2 hC hA hr hq k1 k3 hCI
          go_wp2_with (fail)
          go_meet
          exact ⟨vint (by rw [← Q1.out, ← HN.out]), rfl⟩
  case rest =>
    obtain ⟨rfl, rfl⟩ := hcut
    have hX := OK.out.big
    rw [Q1.out] at hX
    obtain ⟨u2, U2⟩ : ∃ u2, Hid ((u * 4294967296 + t1) % Y = u2) := ⟨_, Lib.hid rfl⟩
    have hu2 : u2 < Y := by rw [← U2.out]; exact Nat.mod_lt _ OK.out.pos
    have hdm : q1 * Y + u2 = u * 4294967296 + t1 := by
      have := Nat.div_add_mod (u * 4294967296 + t1) Y
      rw [Q1.out, U2.out, Nat.mul_comm] at this
      exact this
    have hYl : Y < 18446744073709551616 := by have := OK.out.hy; have := OK.out.h0; have := OK.out.h1'; omega
    have f1 : IntKind.u64.wrap (IntKind.u64.wrap (IntKind.u64.wrap ((u : Int) * 4294967296) + t1) - IntKind.u64.wrap ((q1 : Int) * Y)) = (u2 : Int) := by
      rw [IntKind.wrap_u64, IntKind.wrap_u64, IntKind.wrap_u64, IntKind.wrap_u64, ← Int.natCast_mul]
      generalize q1 * Y = z at *
      clear Q1 U2
      omega
    have ok2 : Ok Y y1 y0 u2 t0 := ⟨OK.out.hy, OK.out.h0, OK.out.h1, OK.out.h1', hu2, HT.out⟩
    have hG2 := ok2.start
    have f2 : IntKind.u64.wrap ((u2 : Int) / y1) = ((u2 / y1 : Nat) : Int) := by
      rw [← Int.natCast_ediv, IntKind.wrap_u64]
      have := hG2.2.2.1
      clear hG2 f1
      generalize u2 / y1 = z at *
      omega
    have f3 : IntKind.u64.wrap ((u2 : Int) - IntKind.u64.wrap (((u2 / y1 : Nat) : Int) * y1)) = ((u2 % y1 : Nat) : Int) := by
      have h1 := hG2.1
      clear hG2 f1 f2
      rw [IntKind.wrap_u64, IntKind.wrap_u64, ← Int.natCast_mul]
      generalize u2 / y1 * y1 = z at *
      generalize u2 % y1 = z' at *
      omega
    have HG2 := Lib.hid hG2
    clear hG2
    generalize u2 / y1 = Q2 at *
    generalize u2 % y1 = R2 at *
    have OK2 := Lib.hid ok2
    have HX := Lib.hid hX
    have HU := Lib.hid hu2
    have HDM := Lib.hid hdm
    have HYL := Lib.hid hYl
    clear ok2 hX hu2 hdm hYl e10 e11
    obtain ⟨q0, Q0⟩ : ∃ q0, Hid ((u2 * 4294967296 + t0) / Y = q0) := ⟨_, Lib.hid rfl⟩
    go_upto_block 2 with (fail)
    go_cut [18] from 102 to 120 (fun a wx => a = .int .u64 q0 ∧ wx = wc)
    case first =>
      go_wp2_with (fail)
      go_loopw [18, 16] (fun a b wx => ∃ q r : Nat, a = .int .u64 q ∧ b = .int .u64 r ∧ wx = wc ∧ Hid (Guess Y y1 u2 t0 q r)) (fun a _ _ => (intOf a).toNat)
      case atStart => exact ⟨Q2, R2, rfl, rfl, rfl, HG2⟩
      case round =>
        obtain ⟨q, r, rfl, rfl, rfl, G⟩ := hrel
        have hr := G.out.2.2.2
        have hq := G.out.2.2.1
        have k1 := OK.out.h1'
        have k3 := OK2.out.ht
        by_cases hA : 4294967296 ≤ q
        · have GT := Lib.hid (Or.inl hA : 4294967296 ≤ q ∨ 4294967296 * r + t0 < q * y0)
          by_cases hB : r + y1 < 4294967296
          · have HN := Lib.hid (G.out.on OK2.out GT.out hB)
            have hAI : (4294967296 : Int) ≤ q := by omega
            have hBJ : (r : Int) + y1 ≤ 18446744073709551615 := by omega
            have hBD : decide ((4294967296 : Int) ≤ (r : Int) + y1) = false := decide_eq_false (by omega)
            have hqI : (q : Int) ≤ 4294967297 := by omega
            have HH := Lib.hid hA
            clear hA hB hr hq k1 k3
            go_wp2_with (fail)
            go_roundw
            case rel => exact ⟨q - 1, r + y1, vint (by have := HH.out; omega), by go_num, by trivial, HN⟩
            case measure => simp [intOf]; have := HH.out; omega
          · have HN := Lib.hid (G.out.leave OK2.out GT.out (by omega))
            have hAI : (4294967296 : Int) ≤ q := by omega
            have hBI : 4294967296 ≤ (r : Int) + y1 := by omega
            have hqI : (q : Int) ≤ 4294967297 := by omega
            have hBJ : (r : Int) + y1 ≤ 18446744073709551615 := by omega
            have HH := Lib.hid hA
            clear hA hB hr hq k1 k3
            go_wp2_with (fail)
            go_meet
            exact ⟨vint (by have := HH.out; rw [← Q0.out, ← HN.out]; clear G GT HN; omega), rfl⟩
        · obtain ⟨m1, m2⟩ := G.out.fits OK2.out (by omega)
          have m1I : (q : Int) * y0 ≤ 18446744065119617025 := by rw [← Int.natCast_mul]; omega
          have m0I : 0 ≤ (q : Int) * y0 := by rw [← Int.natCast_mul]; omega
          have m2I : 4294967296 * (r : Int) + t0 ≤ 18446744073709551615 := by omega
          by_cases hC : 4294967296 * r + t0 < q * y0
          · have GT := Lib.hid (Or.inr hC : 4294967296 ≤ q ∨ 4294967296 * r + t0 < q * y0)
            have hd := (G.out.down OK2.out GT.out).1
            have hCI : 4294967296 * (r : Int) + t0 < (q : Int) * y0 := by rw [← Int.natCast_mul]; omega
            by_cases hB : r + y1 < 4294967296
            · have HN := Lib.hid (G.out.on OK2.out GT.out hB)
              have hAB : decide ((4294967296 : Int) ≤ (q : Int)) = false := decide_eq_false (by omega)
              have hqI : (q : Int) ≤ 4294967297 := by omega
              have hdI : (1 : Int) ≤ q := by omega
              have hBJ : (r : Int) + y1 ≤ 18446744073709551615 := by omega
              have hBD : decide ((4294967296 : Int) ≤ (r : Int) + y1) = false := decide_eq_false (by omega)
              have HH := Lib.hid hd
              clear m1 m2 hC hA hB hr hq k1 k3 hd
              go_wp2_with (fail)
              go_roundw
              case rel => exact ⟨q - 1, r + y1, vint (by have := HH.out; omega), by go_num, by trivial, HN⟩
              case measure => simp [intOf]; have := HH.out; omega
            · have HN := Lib.hid (G.out.leave OK2.out GT.out (by omega))
              have hAB : decide ((4294967296 : Int) ≤ (q : Int)) = false := decide_eq_false (by omega)
              have hqI : (q : Int) ≤ 4294967297 := by omega
              have hdI : (1 : Int) ≤ q := by omega
              have hBI : 4294967296 ≤ (r : Int) + y1 := by omega
              have hBJ : (r : Int) + y1 ≤ 18446744073709551615 := by omega
              have HH := Lib.hid hd
              clear m1 m2 hC hA hB hr hq k1 k3 hd
              go_wp2_with (fail)
              go_meet
              exact ⟨vint (by have := HH.out; rw [← Q0.out, ← HN.out]; clear G GT HN; omega), rfl⟩
          · have HN := Lib.hid (G.out.stop OK2.out (by omega))
            have hCI : (q : Int) * y0 ≤ 4294967296 * (r : Int) + t0 := by rw [← Int.natCast_mul]; omega
            have hAB : decide ((4294967296 : Int) ≤ (q : Int)) = false := decide_eq_false (by omega)
            have hb2 : decide (4294967296 * (r : Int) + t0 < (q : Int) * y0) = false := decide_eq_false (by omega)
            clear m1 m2 hC hA hr hq k1 k3 hCI
            go_wp2_with (fail)
            go_meet
            exact ⟨vint (by rw [← Q0.out, ← HN.out]), rfl⟩
    case rest =>
      obtain ⟨rfl, rfl⟩ := hcut
      go_wp2_with (fail)
      have hX2 := OK2.out.big
      rw [Q0.out] at hX2
      obtain ⟨r2, U3⟩ : ∃ r2, Hid ((u2 * 4294967296 + t0) % Y = r2) := ⟨_, Lib.hid rfl⟩
      have hr2 : r2 < Y := by rw [← U3.out]; exact Nat.mod_lt _ OK.out.pos
      have hdm2 : q0 * Y + r2 = u2 * 4294967296 + t0 := by
        have := Nat.div_add_mod (u2 * 4294967296 + t0) Y
        rw [Q0.out, U3.out, Nat.mul_comm] at this
        exact this
      have e1 : IntKind.u64.wrap (IntKind.u64.wrap ((q1 : Int) * 4294967296) + q0) = ((q1 * 4294967296 + q0 : Nat) : Int) := by
        have := HX.out
        rw [IntKind.wrap_u64, IntKind.wrap_u64]
        clear Q1 Q0 U2 U3
        omega
      have e2 : IntKind.u64.wrap (IntKind.u64.wrap (IntKind.u64.wrap ((u2 : Int) * 4294967296) + t0) - IntKind.u64.wrap ((q0 : Int) * Y)) = (r2 : Int) := by
        have := HYL.out
        rw [IntKind.wrap_u64, IntKind.wrap_u64, IntKind.wrap_u64, IntKind.wrap_u64, ← Int.natCast_mul]
        generalize q0 * Y = z at *
        clear Q1 Q0 U2 U3
        omega
      obtain ⟨g1, g2⟩ := halves Y u t1 t0 OK.out.pos HT.out
      rw [HN.out, Q1.out, U2.out, Q0.out, HY.out, Nat.mul_div_mul_right _ _ (Nat.two_pow_pos s)] at g1
      rw [HN.out, U2.out, U3.out, HY.out, Nat.mul_mod_mul_right] at g2
      have e3 : (r2 : Int) / 2 ^ s = ((((hi * 18446744073709551616 + lo) % y : Nat)) : Int) := by
        have e : (r2 : Int) / 2 ^ s = ((r2 / 2 ^ s : Nat) : Int) := by rw [Int.natCast_ediv, Int.natCast_pow]; rfl
        rw [e, g2, Nat.mul_div_cancel _ (Nat.two_pow_pos s)]
      have hy0 : 0 < y := by omega
      go_ret2
      refine ⟨q1 * 4294967296 + q0, (hi * 18446744073709551616 + lo) % y, ?_, Lib.hid ⟨?_, Nat.mod_lt _ hy0, ?_⟩, 0, rfl⟩
      · rw [e1, e2, e3]; rfl
      · have := HX.out; omega
      · rw [g1, Nat.mul_comm]; exact Nat.div_add_mod _ _
end Go.Proofs.YtacicfmalhhceaaGreatDoor.DigW

/- word's Two, the layer's own example ('awake'), and the walks of the laws WordAdds and WordTwos. -/
namespace Go.Proofs.YtacicfmalhhceaaGreatDoor.DigW
open Go.RowKit
open DigM
def TwoOf (n : Int) (w : World) (e : Ending) (w' : World) : Prop := e = .returned (.tuple #[.bool (decide (n < 0)), .int .u64 (n.natAbs : Nat)]) ∧ w = w'
theorem ret_two {a b c d : Value} (h : a = b) (h' : c = d) : Ending.returned (.tuple #[a, c]) = .returned (.tuple #[b, d]) := by rw [h, h']
theorem two_any (n : Int) (w : World) (h1 : -9223372036854775808 ≤ n) (h2 : n ≤ 9223372036854775807) :
    Calls Tryz.prog 64 #[.int .i64 n] w (TwoOf n w) := by
  by_cases hn : n < 0
  · go_enter Tryz.func64, Tryz.ntmps64
    go_wp2_with (fail)
    go_ret2
    exact ⟨ret_two (by simp [hn]) (vint (by (try rw [IntKind.wrap_u64, IntKind.wrap_u64]); omega)), rfl⟩
  · go_enter Tryz.func64, Tryz.ntmps64
    go_wp2_with (fail)
    go_ret2
    exact ⟨ret_two (by simp [hn]) (vint (by omega)), rfl⟩
theorem add_one (w : World) : Calls Tryz.prog 128 #[.int .u64 18446744073709551615, .int .u64 1, .int .u64 0] w (fun e w' => e = .returned (.tuple #[.int .u64 0, .int .u64 1]) ∧ w = w') := by
  refine (add_any 18446744073709551615 1 0 w (Lib.hid (by decide)) (Lib.hid (by decide))).mono ?_
  rintro e w' ⟨s, o, rfl, h, rfl⟩
  obtain ⟨h1, h2, h3⟩ := h.out
  have h3' : s + 18446744073709551616 * o = 18446744073709551616 := h3
  have es : s = 0 := by omega
  have eo : o = 1 := by omega
  exact ⟨by rw [es, eo]; rfl, rfl⟩
theorem mul_six (w : World) : Calls Tryz.prog 130 #[.int .u64 9223372036854775808, .int .u64 6] w (fun e w' => e = .returned (.tuple #[.int .u64 3, .int .u64 0]) ∧ w = w') := by
  refine (mul_any 9223372036854775808 6 w (Lib.hid (by decide)) (Lib.hid (by decide))).mono ?_
  rintro e w' ⟨h, l, rfl, hh, rfl⟩
  obtain ⟨h1, h2, h3⟩ := hh.out
  have e1 : h = 3 := by omega
  have e2 : l = 0 := by omega
  exact ⟨by rw [e1, e2]; rfl, rfl⟩
theorem len_five (w : World) : Calls Tryz.prog 98 #[.int .u64 5] w (fun e w' => e = .returned (.int .i64 3) ∧ w = w') := by
  refine (wlen_any 5 w (Lib.hid (by decide))).mono ?_
  rintro e w' ⟨k, rfl, hk, _, rfl⟩
  have e1 : k = 3 := hk.out.uniq ⟨by decide, fun _ => by decide⟩
  exact ⟨by rw [e1]; rfl, rfl⟩
def IsTrue (w : World) (e : Ending) (w' : World) : Prop := e = .returned (.bool true) ∧ w = w'
def TrueAt (w : World) (e : Ending) (w' : World) : Prop := e = .returned (.bool true) ∧ Below w.heap.size w w'
theorem one_digit {c : Nat} (h : c ≤ 1) : Digs [c] ∧ val [c] = c := ⟨by intro z hz; simp at hz; omega, by simp [val]⟩

end Go.Proofs.YtacicfmalhhceaaGreatDoor.DigW

/- word's Div, and the walk of the law WordMuls. -/
namespace Go.Proofs.YtacicfmalhhceaaGreatDoor.DigW
open Go.RowKit
open DigM
theorem div_no (a b by' : Nat) (w : World) (h : by' ≤ a) :
    Calls Tryz.prog 95 #[.int .u64 a, .int .u64 b, .int .u64 by'] w (fun e w' => e = .returned (.tuple #[.int .u64 0, .int .u64 0, .bool false]) ∧ w = w') := by
  go_enter Tryz.func95, Tryz.ntmps95
  go_wp2_with (fail)
  go_ret3
  exact ⟨rfl, rfl⟩
def DivOf (a b y : Nat) (w : World) (e : Ending) (w' : World) : Prop :=
  ∃ q r : Nat, e = .returned (.tuple #[.int .u64 q, .int .u64 r, .bool true]) ∧ Hid (q < 18446744073709551616 ∧ r < y ∧ q * y + r = a * 18446744073709551616 + b) ∧ ∃ n, w' = w.drewN n
theorem div64_any (hi lo y : Nat) (w : World) (hlt : hi < y) (hlo : Hid (lo < 18446744073709551616)) (hy' : Hid (y < 18446744073709551616)) :
    Calls Tryz.prog 132 #[.int .u64 hi, .int .u64 lo, .int .u64 y] w (QuotOf hi lo y w) := by
  by_cases h0 : hi = 0
  · subst h0; exact div64_low lo y w hlt hlo hy'
  · exact div64_high hi lo y w (by omega) hlt hlo hy'
theorem div_yes (a b y : Nat) (w : World) (h : a < y) (hb : Hid (b < 18446744073709551616)) (hy : Hid (y < 18446744073709551616)) :
    Calls Tryz.prog 95 #[.int .u64 a, .int .u64 b, .int .u64 y] w (DivOf a b y w) := by
  have hI : (a : Int) < y := by omega
  go_enter Tryz.func95, Tryz.ntmps95
  go_wp2_with (fail)
  refine (div64_any a b y w h hb hy).mono ?_
  rintro e w' ⟨q, r, rfl, hqr, n, rfl⟩
  go_wp2_with (fail)
  go_ret3
  exact ⟨q, r, rfl, hqr, n, rfl⟩
end Go.Proofs.YtacicfmalhhceaaGreatDoor.DigW

