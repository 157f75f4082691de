/-
  Structs by their cells: Meet.
-/
import Derived.Test.YtoahcjjndjdljaaMe
namespace Go.Proofs.Ytoahcjjndjdljaa.MeW
open Go.RowKit
open KM
open PtW
set_option maxRecDepth 100000 in
set_option maxRecDepth 100000 in
theorem readMeet {H : Type} {enc : TypeId × Value → H} {w₀ : World} {base : Nat} {sp : Nat → Bool} {held : Bool} {l : List Value} (h : KM.Read Try.prog enc w₀ base sp held 27 l) : ∃ (k : Int) (n : Int) (m : Int) (e : Int) (x : Int) (y : Int) (z : Int) (u : Int), (-9223372036854775808 ≤ k ∧ k ≤ 9223372036854775807) ∧ (-9223372036854775808 ≤ n ∧ n ≤ 9223372036854775807) ∧ (-9223372036854775808 ≤ m ∧ m ≤ 9223372036854775807) ∧ (-9223372036854775808 ≤ e ∧ e ≤ 9223372036854775807) ∧ (-9223372036854775808 ≤ x ∧ x ≤ 9223372036854775807) ∧ (-9223372036854775808 ≤ y ∧ y ≤ 9223372036854775807) ∧ (-9223372036854775808 ≤ z ∧ z ≤ 9223372036854775807) ∧ (-9223372036854775808 ≤ u ∧ u ≤ 9223372036854775807) ∧ l = (mtc k n m e x y z u).toList := by
  obtain ⟨hl, hs⟩ := KM.read_struct [(3, 0, 1), (3, 1, 1), (3, 2, 1), (3, 3, 1), (23, 4, 2), (23, 6, 2)] 8 (by kernel_rfl) (by kernel_rfl) (by kernel_rfl) h
  obtain ⟨k, b0_0, e0⟩ := KM.read_i64 Try.underlying3 (hs 0 _ _ _ rfl)
  obtain ⟨n, b1_0, e1⟩ := KM.read_i64 Try.underlying3 (hs 1 _ _ _ rfl)
  obtain ⟨m, b2_0, e2⟩ := KM.read_i64 Try.underlying3 (hs 2 _ _ _ rfl)
  obtain ⟨e, b3_0, e3⟩ := KM.read_i64 Try.underlying3 (hs 3 _ _ _ rfl)
  obtain ⟨x, y, b4_0, b4_1, e4⟩ := readPt (hs 4 _ _ _ rfl)
  obtain ⟨z, u, b5_0, b5_1, e5⟩ := readPt (hs 5 _ _ _ rfl)
  refine ⟨k, n, m, e, x, y, z, u, b0_0, b1_0, b2_0, b3_0, b4_0, b4_1, b5_0, b5_1, KM.glue0 [(1, [.int .i64 k]), (1, [.int .i64 n]), (1, [.int .i64 m]), (1, [.int .i64 e]), (2, (ptc x y).toList), (2, (ptc z u).toList)] ⟨e0, e1, e2, e3, e4, e5, hl⟩ (by kernel_rfl)⟩
set_option maxRecDepth 100000 in
theorem openMeet {H : Type} {enc : TypeId × Value → H} {w₀ : World} {base : Nat} {sp : Nat → Bool} {held : Bool} {r : Reach} {b0 : Nat} {v : Value} {d : DataW H} {p : List MemPlace} (hv : Value.okWide Try.prog w₀ r b0 27 v) (h : DataW.Trod enc Try.prog w₀ base sp held 27 v d p) : ∃ (k : Int) (n : Int) (m : Int) (e : Int) (x : Int) (y : Int) (z : Int) (u : Int), (-9223372036854775808 ≤ k ∧ k ≤ 9223372036854775807) ∧ (-9223372036854775808 ≤ n ∧ n ≤ 9223372036854775807) ∧ (-9223372036854775808 ≤ m ∧ m ≤ 9223372036854775807) ∧ (-9223372036854775808 ≤ e ∧ e ≤ 9223372036854775807) ∧ (-9223372036854775808 ≤ x ∧ x ≤ 9223372036854775807) ∧ (-9223372036854775808 ≤ y ∧ y ≤ 9223372036854775807) ∧ (-9223372036854775808 ≤ z ∧ z ≤ 9223372036854775807) ∧ (-9223372036854775808 ≤ u ∧ u ≤ 9223372036854775807) ∧ v = .agg (mtc k n m e x y z u) := by
  obtain ⟨cs, rfl, hr⟩ := KM.open_row (by kernel_rfl) hv h
  obtain ⟨k, n, m, e, x, y, z, u, b0, b1, b2, b3, b4, b5, b6, b7, hE⟩ := readMeet hr
  exact ⟨k, n, m, e, x, y, z, u, b0, b1, b2, b3, b4, b5, b6, b7, by rw [← Array.toList_inj.1 hE]⟩
end Go.Proofs.Ytoahcjjndjdljaa.MeW
