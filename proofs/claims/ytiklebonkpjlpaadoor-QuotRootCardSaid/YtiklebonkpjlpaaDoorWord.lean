/-
  What package word answers, but for Div: contracts over the translation.
-/
import Derived.Test.YtiklebonkpjlpaaDoorDig
import Derived.Test.YtiklebonkpjlpaaDoorShelf
import Derived.Shelf.Spec.BitsCarry
import Derived.Laws.Externs
namespace Go.Proofs.YtiklebonkpjlpaaDoor.DigW
open Go.RowKit
open DigM
def cn (c : Nat) : Nat := if c = 0 then 0 else 1
theorem add64 (x y c : Nat) (hc : c ≤ 1) (hx : x < 18446744073709551616) (hy : y < 18446744073709551616) : ∃ s o : Nat, Hid (s < 18446744073709551616 ∧ o ≤ 1 ∧ s + 18446744073709551616 * o = x + y + c) ∧
    ∀ w, (callFunc 47 #[.int .u64 x, .int .u64 y, .int .u64 c]).run Tryd.prog w = .ok (.value (.tuple #[.int .u64 s, .int .u64 o])) w := by
  refine ⟨(x + y + c) % 18446744073709551616, (x + y + c) / 18446744073709551616, Lib.hid (by omega), fun w => ?_⟩
  rw [run_callFunc_extern Tryd.func47 (by kernel_rfl) (by kernel_rfl) (by kernel_rfl) (e := add64Entry) (by kernel_rfl), run_add64 x y c (by omega) (by omega) (by omega) (by omega)]
  simp only [Result.andThen]
  congr 5 <;> omega
theorem sub64 (x y c : Nat) (hc : c ≤ 1) (hx : x < 18446744073709551616) (hy : y < 18446744073709551616) : ∃ s o : Nat, Hid (s < 18446744073709551616 ∧ o ≤ 1 ∧ s + y + c = x + 18446744073709551616 * o) ∧
    ∀ w, (callFunc 67 #[.int .u64 x, .int .u64 y, .int .u64 c]).run Tryd.prog w = .ok (.value (.tuple #[.int .u64 s, .int .u64 o])) w := by
  refine ⟨(x + 18446744073709551616 - y - c) % 18446744073709551616, if x < y + c then 1 else 0, Lib.hid (by split <;> omega), fun w => ?_⟩
  rw [run_callFunc_extern Tryd.func67 (by kernel_rfl) (by kernel_rfl) (by kernel_rfl) (e := sub64Entry) (by kernel_rfl), run_sub64 x y c hc]
  rfl
/-- a sum, and what is carried -/
def SumOf (a b c : Nat) (w : World) (e : Ending) (w' : World) : Prop :=
  ∃ s o : Nat, e = .returned (.tuple #[.int .u64 s, .int .u64 o]) ∧ Hid (s < 18446744073709551616 ∧ o ≤ 1 ∧ s + 18446744073709551616 * o = a + b + cn c) ∧ w = w'
def DifOf (a b c : Nat) (w : World) (e : Ending) (w' : World) : Prop :=
  ∃ s o : Nat, e = .returned (.tuple #[.int .u64 s, .int .u64 o]) ∧ Hid (s < 18446744073709551616 ∧ o ≤ 1 ∧ s + b + cn c = a + 18446744073709551616 * o) ∧ w = w'
theorem add_any (a b c : Nat) (w : World) (ha : Hid (a < 18446744073709551616)) (hb : Hid (b < 18446744073709551616)) :
    Calls Tryd.prog 29 #[.int .u64 a, .int .u64 b, .int .u64 c] w (SumOf a b c w) := by
  obtain ⟨s, o, hs, hr⟩ := add64 a b (cn c) (by unfold cn; split <;> decide) ha.out hb.out
  have hrun : ∀ w, (callFunc 47 #[.int .u64 a, .int .u64 b, .int .u64 (min (c : Int) 1)]).run Tryd.prog w = .ok (.value (.tuple #[.int .u64 s, .int .u64 o])) w := by
    intro w
    rw [show min (c : Int) 1 = ((cn c : Nat) : Int) by unfold cn; split <;> omega]
    exact hr w
  clear hr
  go_enter Tryd.func29, Tryd.ntmps29
  go_wp2_with (simp only [hrun])
  go_ret2
  exact ⟨s, o, rfl, hs, rfl⟩
theorem sub_any (a b c : Nat) (w : World) (ha : Hid (a < 18446744073709551616)) (hb : Hid (b < 18446744073709551616)) :
    Calls Tryd.prog 53 #[.int .u64 a, .int .u64 b, .int .u64 c] w (DifOf a b c w) := by
  obtain ⟨s, o, hs, hr⟩ := sub64 a b (cn c) (by unfold cn; split <;> decide) ha.out hb.out
  have hrun : ∀ w, (callFunc 67 #[.int .u64 a, .int .u64 b, .int .u64 (min (c : Int) 1)]).run Tryd.prog w = .ok (.value (.tuple #[.int .u64 s, .int .u64 o])) w := by
    intro w
    rw [show min (c : Int) 1 = ((cn c : Nat) : Int) by unfold cn; split <;> omega]
    exact hr w
  clear hr
  go_enter Tryd.func53, Tryd.ntmps53
  go_wp2_with (simp only [hrun])
  go_ret2
  exact ⟨s, o, rfl, hs, rfl⟩
def ProdOf (a b : Nat) (w : World) (e : Ending) (w' : World) : Prop :=
  ∃ h l : Nat, e = .returned (.tuple #[.int .u64 h, .int .u64 l]) ∧ Hid (h < 18446744073709551616 ∧ l < 18446744073709551616 ∧ h * 18446744073709551616 + l = a * b) ∧ w = w'
theorem mul_any (a b : Nat) (w : World) (ha : Hid (a < 18446744073709551616)) (hb : Hid (b < 18446744073709551616)) :
    Calls Tryd.prog 46 #[.int .u64 a, .int .u64 b] w (ProdOf a b w) := by
  have hlt : a * b / 18446744073709551616 < 18446744073709551616 := by
    have := Nat.mul_lt_mul_of_lt_of_le ha.out (Nat.le_of_lt hb.out) (by decide)
    omega
  have hd := Nat.div_add_mod (a * b) 18446744073709551616
  have hm := Nat.mod_lt (a * b) (show 0 < 18446744073709551616 by decide)
  have hF := Tryd.bits_Mul64 a b ha.out hb.out w
  generalize a * b / 18446744073709551616 = h at *
  generalize a * b % 18446744073709551616 = l at *
  have HH := Lib.hid (show h < 18446744073709551616 ∧ l < 18446744073709551616 ∧ h * 18446744073709551616 + l = a * b from ⟨hlt, hm, by omega⟩)
  clear hlt hd hm
  go_enter Tryd.func46, Tryd.ntmps46
  go_wp2_with (fail)
  refine hF.mono ?_
  rintro e w' ⟨rfl, rfl⟩
  go_wp2_with (fail)
  go_ret2
  exact ⟨h, l, rfl, HH, rfl⟩
def BitsOf (a : Nat) (w : World) (e : Ending) (w' : World) : Prop := ∃ k : Nat, e = .returned (.int .i64 k) ∧ Hid (BL a k) ∧ k ≤ 64 ∧ w = w'
theorem bitLenAux_BL : ∀ (f x : Nat), x < 2 ^ f → BL x (Lib.bitLenAux f x)
  | 0, x, h => by
    have : x = 0 := by simpa using h
    subst this; exact BL.zero
  | f + 1, x, h => by
    unfold Lib.bitLenAux
    split
    · rename_i h0; rw [h0]; exact BL.zero
    · rename_i h0
      have := bitLenAux_BL f (x / 2) (by rw [Nat.pow_succ] at h; omega)
      generalize Lib.bitLenAux f (x / 2) = k at *
      refine ⟨?_, fun _ => ?_⟩
      · have := this.1
        rw [Nat.add_comm, Nat.pow_succ]; omega
      · show 2 ^ (1 + k - 1) ≤ x
        rw [show 1 + k - 1 = k by omega]
        cases k with
        | zero => simp; omega
        | succ j =>
          have := this.2 (by omega)
          simp at this
          rw [Nat.pow_succ]; omega
theorem wlen_any (a : Nat) (w : World) (ha : Hid (a < 18446744073709551616)) :
    Calls Tryd.prog 49 #[.int .u64 a] w (BitsOf a w) := by
  have hb : Hid (BL a (Lib.bitLen a)) := Lib.hid (bitLenAux_BL 64 a (by have := ha.out; simpa using this))
  have hle : Lib.bitLen a ≤ 64 := Lib.bitLen_le a 64 (by decide) (by have := ha.out; simpa using this)
  have hF := Tryd.bits_Len64 a w (by omega) (by have := ha.out; omega)
  simp only [Int.toNat_natCast] at hF
  generalize Lib.bitLen a = k at *
  go_enter Tryd.func49, Tryd.ntmps49
  go_wp2_with (fail)
  refine hF.mono ?_
  rintro e w' ⟨rfl, rfl⟩
  go_wp2_with (fail)
  go_ret
  exact ⟨k, rfl, hb, hle, rfl⟩
end Go.Proofs.YtiklebonkpjlpaaDoor.DigW
