/-
  Structs by their cells: Pt, Seg, Pt*3.
-/
import Derived.Test.YtnbipfoipnaafaaPt
namespace Go.Proofs.Ytnbipfoipnaafaa.PtW
open Go.RowKit
open KM
set_option maxRecDepth 100000 in
set_option maxRecDepth 100000 in
theorem readPt {H : Type} {enc : TypeId × Value → H} {w₀ : World} {base : Nat} {sp : Nat → Bool} {held : Bool} {l : List Value} (h : KM.Read Try.prog enc w₀ base sp held 23 l) : ∃ (x : Int) (y : Int), (-9223372036854775808 ≤ x ∧ x ≤ 9223372036854775807) ∧ (-9223372036854775808 ≤ y ∧ y ≤ 9223372036854775807) ∧ l = (ptc x y).toList := by
  obtain ⟨hl, hs⟩ := KM.read_struct [(3, 0, 1), (3, 1, 1)] 2 (by kernel_rfl) (by kernel_rfl) (by kernel_rfl) h
  obtain ⟨x, b0_0, e0⟩ := KM.read_i64 Try.underlying3 (hs 0 _ _ _ rfl)
  obtain ⟨y, b1_0, e1⟩ := KM.read_i64 Try.underlying3 (hs 1 _ _ _ rfl)
  refine ⟨x, y, b0_0, b1_0, KM.glue0 [(1, [.int .i64 x]), (1, [.int .i64 y])] ⟨e0, e1, hl⟩ (by kernel_rfl)⟩
set_option maxRecDepth 100000 in
theorem openPt {H : Type} {enc : TypeId × Value → H} {w₀ : World} {base : Nat} {sp : Nat → Bool} {held : Bool} {r : Reach} {b0 : Nat} {v : Value} {d : DataW H} {p : List MemPlace} (hv : Value.okWide Try.prog w₀ r b0 23 v) (h : DataW.Trod enc Try.prog w₀ base sp held 23 v d p) : ∃ (x : Int) (y : Int), (-9223372036854775808 ≤ x ∧ x ≤ 9223372036854775807) ∧ (-9223372036854775808 ≤ y ∧ y ≤ 9223372036854775807) ∧ v = .agg (ptc x y) := by
  obtain ⟨cs, rfl, hr⟩ := KM.open_row (by kernel_rfl) hv h
  obtain ⟨x, y, b0, b1, e⟩ := readPt hr
  exact ⟨x, y, b0, b1, by rw [← Array.toList_inj.1 e]⟩
set_option maxRecDepth 100000 in
set_option maxRecDepth 100000 in
theorem readSeg {H : Type} {enc : TypeId × Value → H} {w₀ : World} {base : Nat} {sp : Nat → Bool} {held : Bool} {l : List Value} (h : KM.Read Try.prog enc w₀ base sp held 31 l) : ∃ (x : Int) (y : Int) (z : Int) (u : Int), (-9223372036854775808 ≤ x ∧ x ≤ 9223372036854775807) ∧ (-9223372036854775808 ≤ y ∧ y ≤ 9223372036854775807) ∧ (-9223372036854775808 ≤ z ∧ z ≤ 9223372036854775807) ∧ (-9223372036854775808 ≤ u ∧ u ≤ 9223372036854775807) ∧ l = (sgc x y z u).toList := by
  obtain ⟨hl, hs⟩ := KM.read_struct [(23, 0, 2), (23, 2, 2)] 4 (by kernel_rfl) (by kernel_rfl) (by kernel_rfl) h
  obtain ⟨x, y, b0_0, b0_1, e0⟩ := readPt (hs 0 _ _ _ rfl)
  obtain ⟨z, u, b1_0, b1_1, e1⟩ := readPt (hs 1 _ _ _ rfl)
  refine ⟨x, y, z, u, b0_0, b0_1, b1_0, b1_1, KM.glue0 [(2, (ptc x y).toList), (2, (ptc z u).toList)] ⟨e0, e1, hl⟩ (by kernel_rfl)⟩
set_option maxRecDepth 100000 in
theorem openSeg {H : Type} {enc : TypeId × Value → H} {w₀ : World} {base : Nat} {sp : Nat → Bool} {held : Bool} {r : Reach} {b0 : Nat} {v : Value} {d : DataW H} {p : List MemPlace} (hv : Value.okWide Try.prog w₀ r b0 31 v) (h : DataW.Trod enc Try.prog w₀ base sp held 31 v d p) : ∃ (x : Int) (y : Int) (z : Int) (u : Int), (-9223372036854775808 ≤ x ∧ x ≤ 9223372036854775807) ∧ (-9223372036854775808 ≤ y ∧ y ≤ 9223372036854775807) ∧ (-9223372036854775808 ≤ z ∧ z ≤ 9223372036854775807) ∧ (-9223372036854775808 ≤ u ∧ u ≤ 9223372036854775807) ∧ v = .agg (sgc x y z u) := by
  obtain ⟨cs, rfl, hr⟩ := KM.open_row (by kernel_rfl) hv h
  obtain ⟨x, y, z, u, b0, b1, b2, b3, e⟩ := readSeg hr
  exact ⟨x, y, z, u, b0, b1, b2, b3, by rw [← Array.toList_inj.1 e]⟩
set_option maxRecDepth 100000 in
set_option maxRecDepth 100000 in
theorem openPt3 {H : Type} {enc : TypeId × Value → H} {w₀ : World} {base : Nat} {sp : Nat → Bool} {held : Bool} {r : Reach} {b0 : Nat} {v : Value} {d : DataW H} {p : List MemPlace} (hv : Value.okWide Try.prog w₀ r b0 37 v) (h : DataW.Trod enc Try.prog w₀ base sp held 37 v d p) : ∃ (x0 : Int) (y0 : Int) (x1 : Int) (y1 : Int) (x2 : Int) (y2 : Int), (-9223372036854775808 ≤ x0 ∧ x0 ≤ 9223372036854775807) ∧ (-9223372036854775808 ≤ y0 ∧ y0 ≤ 9223372036854775807) ∧ (-9223372036854775808 ≤ x1 ∧ x1 ≤ 9223372036854775807) ∧ (-9223372036854775808 ≤ y1 ∧ y1 ≤ 9223372036854775807) ∧ (-9223372036854775808 ≤ x2 ∧ x2 ≤ 9223372036854775807) ∧ (-9223372036854775808 ≤ y2 ∧ y2 ≤ 9223372036854775807) ∧ v = .agg (a3ptc x0 y0 x1 y1 x2 y2) := by
  obtain ⟨cs, rfl, hr⟩ := KM.open_row (by kernel_rfl) hv h
  obtain ⟨hl, hs⟩ := KM.read_array (k := 2) Try.underlying37 (by kernel_rfl) 6 (by kernel_rfl) hr
  obtain ⟨x0, y0, b0_0, b0_1, e0⟩ := readPt (hs 0 (by decide))
  obtain ⟨x1, y1, b1_0, b1_1, e1⟩ := readPt (hs 1 (by decide))
  obtain ⟨x2, y2, b2_0, b2_1, e2⟩ := readPt (hs 2 (by decide))
  refine ⟨x0, y0, x1, y1, x2, y2, b0_0, b0_1, b1_0, b1_1, b2_0, b2_1, congrArg Value.agg (Array.toList_inj.1 (KM.glue0 [(2, (ptc x0 y0).toList), (2, (ptc x1 y1).toList), (2, (ptc x2 y2).toList)] ⟨e0, e1, e2, hl⟩ (by kernel_rfl)))⟩
end Go.Proofs.Ytnbipfoipnaafaa.PtW
