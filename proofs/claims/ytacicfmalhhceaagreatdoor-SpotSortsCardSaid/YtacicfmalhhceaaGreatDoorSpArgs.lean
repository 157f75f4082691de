/-
  Structs by their cells: Spot, int*3.
-/
import Derived.Test.YtacicfmalhhceaaGreatDoorSp
namespace Go.Proofs.YtacicfmalhhceaaGreatDoor.SpW
open Go.RowKit
open WideM WideV KM WideW SignW
open RatW PtW
set_option maxRecDepth 100000 in
theorem readWide {H : Type} {enc : TypeId × Value → H} {w₀ : World} {base : Nat} {sp : Nat → Bool} {held : Bool} {l : List Value} (h : KM.Read Tryz.prog enc w₀ base sp held 24 l) : ∃ n : Nat, n < M ∧ l = (cells 8 n).toList := by
  obtain ⟨n, x, h⟩ := h
  have hc1 : Tryz.prog.cellsOf 24 = 8 := by kernel_rfl
  obtain ⟨zs, hzs, hzl, hw⟩ := SignW.arr_ints Tryz.underlying24 Tryz.underlying22 (by kernel_rfl) hc1 h
  obtain ⟨a, ha, ea⟩ := WideA.wide_of hzl hw
  exact ⟨a, ha, by rw [← ea, hzs]⟩
set_option maxRecDepth 100000 in
theorem readInt {H : Type} {enc : TypeId × Value → H} {w₀ : World} {base : Nat} {sp : Nat → Bool} {held : Bool} {l : List Value} (h : KM.Read Tryz.prog enc w₀ base sp held 26 l) : ∃ (s : Bool) (n : Nat), n < M ∧ l = (ic s n).toList := by
  obtain ⟨hl, hs⟩ := KM.read_struct [(4, 0, 1), (24, 1, 8)] 9 (by kernel_rfl) (by kernel_rfl) (by kernel_rfl) h
  obtain ⟨s, e0⟩ := KM.read_bool Tryz.underlying4 (hs 0 _ _ _ rfl)
  obtain ⟨n, b, e1⟩ := readWide (hs 1 _ _ _ rfl)
  exact ⟨s, n, b, KM.glue0 [(1, [.bool s]), (8, (cells 8 n).toList)] ⟨e0, e1, hl⟩ (by kernel_rfl)⟩
set_option maxRecDepth 100000 in
set_option maxRecDepth 100000 in
theorem readSpot {H : Type} {enc : TypeId × Value → H} {w₀ : World} {base : Nat} {sp : Nat → Bool} {held : Bool} {l : List Value} (h : KM.Read Tryz.prog enc w₀ base sp held 28 l) : ∃ (s : Bool) (n : Nat) (t : Bool) (m : Nat) (e : Nat), n < M ∧ m < M ∧ e < M ∧ l = (spc s n t m e).toList := by
  obtain ⟨hl, hs⟩ := KM.read_struct [(26, 0, 9), (26, 9, 9), (24, 18, 8)] 26 (by kernel_rfl) (by kernel_rfl) (by kernel_rfl) h
  obtain ⟨s, n, b0_0, e0⟩ := readInt (hs 0 _ _ _ rfl)
  obtain ⟨t, m, b1_0, e1⟩ := readInt (hs 1 _ _ _ rfl)
  obtain ⟨e, b2_0, e2⟩ := readWide (hs 2 _ _ _ rfl)
  refine ⟨s, n, t, m, e, b0_0, b1_0, b2_0, KM.glue0 [(9, (ic s n).toList), (9, (ic t m).toList), (8, (cells 8 e).toList)] ⟨e0, e1, e2, hl⟩ (by kernel_rfl)⟩
set_option maxRecDepth 100000 in
theorem openSpot {H : Type} {enc : TypeId × Value → H} {w₀ : World} {base : Nat} {sp : Nat → Bool} {held : Bool} {r : Reach} {b0 : Nat} {v : Value} {d : DataW H} {p : List MemPlace} (hv : Value.okWide Tryz.prog w₀ r b0 28 v) (h : DataW.Trod enc Tryz.prog w₀ base sp held 28 v d p) : ∃ (s : Bool) (n : Nat) (t : Bool) (m : Nat) (e : Nat), n < M ∧ m < M ∧ e < M ∧ v = .agg (spc s n t m e) := by
  obtain ⟨cs, rfl, hr⟩ := KM.open_row (by kernel_rfl) hv h
  obtain ⟨s, n, t, m, e, b0, b1, b2, hE⟩ := readSpot hr
  exact ⟨s, n, t, m, e, b0, b1, b2, by rw [← Array.toList_inj.1 hE]⟩
def a3ic (x0 : Int) (x1 : Int) (x2 : Int) : Array Value := #[.int .i64 x0, .int .i64 x1, .int .i64 x2]
set_option maxRecDepth 100000 in
set_option maxRecDepth 100000 in
theorem rowint3 (x0 : Int) (x1 : Int) (x2 : Int) : Row Tryz.prog 55 (a3ic x0 x1 x2).size := ⟨by kernel_rfl, by kernel_rfl⟩
set_option maxRecDepth 100000 in
set_option maxRecDepth 100000 in
instance celint3 (x0 : Int) (x1 : Int) (x2 : Int) : Cel Tryz.prog 55 (a3ic x0 x1 x2) := ⟨rowint3 x0 x1 x2, by kernel_rfl⟩
set_option maxRecDepth 100000 in
set_option maxRecDepth 100000 in
instance cellint3_0 (x0 : Int) (x1 : Int) (x2 : Int) : CellV Tryz.prog 3 (a3ic x0 x1 x2) 0 (.int .i64 x0) := ⟨⟨by kernel_rfl⟩, rfl⟩
set_option maxRecDepth 100000 in
@[simp] theorem a3ic_0 (x0 : Int) (x1 : Int) (x2 : Int) : (a3ic x0 x1 x2)[0]? = some (.int .i64 x0) := rfl
set_option maxRecDepth 100000 in
set_option maxRecDepth 100000 in
instance cellint3_1 (x0 : Int) (x1 : Int) (x2 : Int) : CellV Tryz.prog 3 (a3ic x0 x1 x2) 1 (.int .i64 x1) := ⟨⟨by kernel_rfl⟩, rfl⟩
set_option maxRecDepth 100000 in
@[simp] theorem a3ic_1 (x0 : Int) (x1 : Int) (x2 : Int) : (a3ic x0 x1 x2)[1]? = some (.int .i64 x1) := rfl
set_option maxRecDepth 100000 in
set_option maxRecDepth 100000 in
instance cellint3_2 (x0 : Int) (x1 : Int) (x2 : Int) : CellV Tryz.prog 3 (a3ic x0 x1 x2) 2 (.int .i64 x2) := ⟨⟨by kernel_rfl⟩, rfl⟩
set_option maxRecDepth 100000 in
@[simp] theorem a3ic_2 (x0 : Int) (x1 : Int) (x2 : Int) : (a3ic x0 x1 x2)[2]? = some (.int .i64 x2) := rfl
set_option maxRecDepth 100000 in
set_option maxRecDepth 100000 in
theorem openint3 {H : Type} {enc : TypeId × Value → H} {w₀ : World} {base : Nat} {sp : Nat → Bool} {held : Bool} {r : Reach} {b0 : Nat} {v : Value} {d : DataW H} {p : List MemPlace} (hv : Value.okWide Tryz.prog w₀ r b0 55 v) (h : DataW.Trod enc Tryz.prog w₀ base sp held 55 v d p) : ∃ (x0 : Int) (x1 : Int) (x2 : Int), (-9223372036854775808 ≤ x0 ∧ x0 ≤ 9223372036854775807) ∧ (-9223372036854775808 ≤ x1 ∧ x1 ≤ 9223372036854775807) ∧ (-9223372036854775808 ≤ x2 ∧ x2 ≤ 9223372036854775807) ∧ v = .agg (a3ic x0 x1 x2) := by
  obtain ⟨cs, rfl, hr⟩ := KM.open_row (by kernel_rfl) hv h
  obtain ⟨hl, hs⟩ := KM.read_array (k := 1) Tryz.underlying55 (by kernel_rfl) 3 (by kernel_rfl) hr
  obtain ⟨x0, b0_0, e0⟩ := KM.read_i64 Tryz.underlying3 (hs 0 (by decide))
  obtain ⟨x1, b1_0, e1⟩ := KM.read_i64 Tryz.underlying3 (hs 1 (by decide))
  obtain ⟨x2, b2_0, e2⟩ := KM.read_i64 Tryz.underlying3 (hs 2 (by decide))
  refine ⟨x0, x1, x2, b0_0, b1_0, b2_0, congrArg Value.agg (Array.toList_inj.1 (KM.glue0 [(1, [.int .i64 x0]), (1, [.int .i64 x1]), (1, [.int .i64 x2])] ⟨e0, e1, e2, hl⟩ (by kernel_rfl)))⟩
end Go.Proofs.YtacicfmalhhceaaGreatDoor.SpW
