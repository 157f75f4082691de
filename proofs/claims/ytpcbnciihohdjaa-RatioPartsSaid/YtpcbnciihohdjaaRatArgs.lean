/-
  Structs by their cells: Ratio, Ratio*3, int*4.
-/
import Derived.Test.YtpcbnciihohdjaaRat
import Derived.Test.YtpcbnciihohdjaaOpens
namespace Go.Proofs.Ytpcbnciihohdjaa.RatW
open Go.RowKit
open WideM WideV KM WideW SignW
set_option maxRecDepth 100000 in
theorem readWide {H : Type} {enc : TypeId × Value → H} {w₀ : World} {base : Nat} {sp : Nat → Bool} {held : Bool} {l : List Value} (h : KM.Read Try.prog enc w₀ base sp held 24 l) : ∃ n : Nat, n < M ∧ l = (cells 8 n).toList := by
  obtain ⟨n, x, h⟩ := h
  have hc1 : Try.prog.cellsOf 24 = 8 := by kernel_rfl
  obtain ⟨zs, hzs, hzl, hw⟩ := SignW.arr_ints Try.underlying24 Try.underlying22 (by kernel_rfl) hc1 h
  obtain ⟨a, ha, ea⟩ := WideA.wide_of hzl hw
  exact ⟨a, ha, by rw [← ea, hzs]⟩
set_option maxRecDepth 100000 in
theorem readInt {H : Type} {enc : TypeId × Value → H} {w₀ : World} {base : Nat} {sp : Nat → Bool} {held : Bool} {l : List Value} (h : KM.Read Try.prog enc w₀ base sp held 26 l) : ∃ (s : Bool) (n : Nat), n < M ∧ l = (ic s n).toList := by
  obtain ⟨hl, hs⟩ := KM.read_struct [(4, 0, 1), (24, 1, 8)] 9 (by kernel_rfl) (by kernel_rfl) (by kernel_rfl) h
  obtain ⟨s, e0⟩ := KM.read_bool Try.underlying4 (hs 0 _ _ _ rfl)
  obtain ⟨n, b, e1⟩ := readWide (hs 1 _ _ _ rfl)
  exact ⟨s, n, b, KM.glue0 [(1, [.bool s]), (8, (cells 8 n).toList)] ⟨e0, e1, hl⟩ (by kernel_rfl)⟩
set_option maxRecDepth 100000 in
set_option maxRecDepth 100000 in
theorem readRatio {H : Type} {enc : TypeId × Value → H} {w₀ : World} {base : Nat} {sp : Nat → Bool} {held : Bool} {l : List Value} (h : KM.Read Try.prog enc w₀ base sp held 28 l) : ∃ (s : Bool) (n : Nat) (d : Nat), n < M ∧ d < M ∧ l = (rc s n d).toList := by
  obtain ⟨hl, hs⟩ := KM.read_struct [(26, 0, 9), (24, 9, 8)] 17 (by kernel_rfl) (by kernel_rfl) (by kernel_rfl) h
  obtain ⟨s, n, b0_0, e0⟩ := readInt (hs 0 _ _ _ rfl)
  obtain ⟨d, b1_0, e1⟩ := readWide (hs 1 _ _ _ rfl)
  refine ⟨s, n, d, b0_0, b1_0, KM.glue0 [(9, (ic s n).toList), (8, (cells 8 d).toList)] ⟨e0, e1, hl⟩ (by kernel_rfl)⟩
set_option maxRecDepth 100000 in
theorem openRatio {H : Type} {enc : TypeId × Value → H} {w₀ : World} {base : Nat} {sp : Nat → Bool} {held : Bool} {r : Reach} {b0 : Nat} {v : Value} {d : DataW H} {p : List MemPlace} (hv : Value.okWide Try.prog w₀ r b0 28 v) (h : DataW.Trod enc Try.prog w₀ base sp held 28 v d p) : ∃ (s : Bool) (n : Nat) (d : Nat), n < M ∧ d < M ∧ v = .agg (rc s n d) := by
  obtain ⟨cs, rfl, hr⟩ := KM.open_row (by kernel_rfl) hv h
  obtain ⟨s, n, d, b0, b1, e⟩ := readRatio hr
  exact ⟨s, n, d, b0, b1, by rw [← Array.toList_inj.1 e]⟩
def a3rc (s0 : Bool) (n0 : Nat) (d0 : Nat) (s1 : Bool) (n1 : Nat) (d1 : Nat) (s2 : Bool) (n2 : Nat) (d2 : Nat) : Array Value := #[.bool s0, .int .u64 (wd n0 0 : Nat), .int .u64 (wd n0 1 : Nat), .int .u64 (wd n0 2 : Nat), .int .u64 (wd n0 3 : Nat), .int .u64 (wd n0 4 : Nat), .int .u64 (wd n0 5 : Nat), .int .u64 (wd n0 6 : Nat), .int .u64 (wd n0 7 : Nat), .int .u64 (wd d0 0 : Nat), .int .u64 (wd d0 1 : Nat), .int .u64 (wd d0 2 : Nat), .int .u64 (wd d0 3 : Nat), .int .u64 (wd d0 4 : Nat), .int .u64 (wd d0 5 : Nat), .int .u64 (wd d0 6 : Nat), .int .u64 (wd d0 7 : Nat), .bool s1, .int .u64 (wd n1 0 : Nat), .int .u64 (wd n1 1 : Nat), .int .u64 (wd n1 2 : Nat), .int .u64 (wd n1 3 : Nat), .int .u64 (wd n1 4 : Nat), .int .u64 (wd n1 5 : Nat), .int .u64 (wd n1 6 : Nat), .int .u64 (wd n1 7 : Nat), .int .u64 (wd d1 0 : Nat), .int .u64 (wd d1 1 : Nat), .int .u64 (wd d1 2 : Nat), .int .u64 (wd d1 3 : Nat), .int .u64 (wd d1 4 : Nat), .int .u64 (wd d1 5 : Nat), .int .u64 (wd d1 6 : Nat), .int .u64 (wd d1 7 : Nat), .bool s2, .int .u64 (wd n2 0 : Nat), .int .u64 (wd n2 1 : Nat), .int .u64 (wd n2 2 : Nat), .int .u64 (wd n2 3 : Nat), .int .u64 (wd n2 4 : Nat), .int .u64 (wd n2 5 : Nat), .int .u64 (wd n2 6 : Nat), .int .u64 (wd n2 7 : Nat), .int .u64 (wd d2 0 : Nat), .int .u64 (wd d2 1 : Nat), .int .u64 (wd d2 2 : Nat), .int .u64 (wd d2 3 : Nat), .int .u64 (wd d2 4 : Nat), .int .u64 (wd d2 5 : Nat), .int .u64 (wd d2 6 : Nat), .int .u64 (wd d2 7 : Nat)]
set_option maxRecDepth 100000 in
set_option maxRecDepth 100000 in
theorem rowRatio3 (s0 : Bool) (n0 : Nat) (d0 : Nat) (s1 : Bool) (n1 : Nat) (d1 : Nat) (s2 : Bool) (n2 : Nat) (d2 : Nat) : Row Try.prog 53 (a3rc s0 n0 d0 s1 n1 d1 s2 n2 d2).size := ⟨by kernel_rfl, by kernel_rfl⟩
set_option maxRecDepth 100000 in
set_option maxRecDepth 100000 in
instance celRatio3 (s0 : Bool) (n0 : Nat) (d0 : Nat) (s1 : Bool) (n1 : Nat) (d1 : Nat) (s2 : Bool) (n2 : Nat) (d2 : Nat) : Cel Try.prog 53 (a3rc s0 n0 d0 s1 n1 d1 s2 n2 d2) := ⟨rowRatio3 s0 n0 d0 s1 n1 d1 s2 n2 d2, by kernel_rfl⟩
set_option maxRecDepth 100000 in
set_option maxRecDepth 100000 in
instance partRatio3_0 (s0 : Bool) (n0 : Nat) (d0 : Nat) (s1 : Bool) (n1 : Nat) (d1 : Nat) (s2 : Bool) (n2 : Nat) (d2 : Nat) : Part Try.prog 28 (a3rc s0 n0 d0 s1 n1 d1 s2 n2 d2) 0 (rc s0 n0 d0) := Part.of (rowRatio _ _ _) (by kernel_rfl)
set_option maxRecDepth 100000 in
set_option maxRecDepth 100000 in
instance partRatio3_0_0Int (s0 : Bool) (n0 : Nat) (d0 : Nat) (s1 : Bool) (n1 : Nat) (d1 : Nat) (s2 : Bool) (n2 : Nat) (d2 : Nat) : Part Try.prog 26 (a3rc s0 n0 d0 s1 n1 d1 s2 n2 d2) 0 (ic s0 n0) := Part.of (rowI _ _) (by kernel_rfl)
set_option maxRecDepth 100000 in
set_option maxRecDepth 100000 in
instance cellRatio3_0_0 (s0 : Bool) (n0 : Nat) (d0 : Nat) (s1 : Bool) (n1 : Nat) (d1 : Nat) (s2 : Bool) (n2 : Nat) (d2 : Nat) : CellV Try.prog 4 (a3rc s0 n0 d0 s1 n1 d1 s2 n2 d2) 0 (.bool s0) := ⟨⟨by kernel_rfl⟩, rfl⟩
set_option maxRecDepth 100000 in
@[simp] theorem a3rc_0 (s0 : Bool) (n0 : Nat) (d0 : Nat) (s1 : Bool) (n1 : Nat) (d1 : Nat) (s2 : Bool) (n2 : Nat) (d2 : Nat) : (a3rc s0 n0 d0 s1 n1 d1 s2 n2 d2)[0]? = some (.bool s0) := rfl
set_option maxRecDepth 100000 in
set_option maxRecDepth 100000 in
instance partRatio3_0_1Wide (s0 : Bool) (n0 : Nat) (d0 : Nat) (s1 : Bool) (n1 : Nat) (d1 : Nat) (s2 : Bool) (n2 : Nat) (d2 : Nat) : Part Try.prog 24 (a3rc s0 n0 d0 s1 n1 d1 s2 n2 d2) 1 (cells 8 n0) := Part.of (by rw [cells_size]; exact rowW) (by kernel_rfl)
set_option maxRecDepth 100000 in
set_option maxRecDepth 100000 in
instance partRatio3_0_9Wide (s0 : Bool) (n0 : Nat) (d0 : Nat) (s1 : Bool) (n1 : Nat) (d1 : Nat) (s2 : Bool) (n2 : Nat) (d2 : Nat) : Part Try.prog 24 (a3rc s0 n0 d0 s1 n1 d1 s2 n2 d2) 9 (cells 8 d0) := Part.of (by rw [cells_size]; exact rowW) (by kernel_rfl)
set_option maxRecDepth 100000 in
set_option maxRecDepth 100000 in
instance partRatio3_1 (s0 : Bool) (n0 : Nat) (d0 : Nat) (s1 : Bool) (n1 : Nat) (d1 : Nat) (s2 : Bool) (n2 : Nat) (d2 : Nat) : Part Try.prog 28 (a3rc s0 n0 d0 s1 n1 d1 s2 n2 d2) 17 (rc s1 n1 d1) := Part.of (rowRatio _ _ _) (by kernel_rfl)
set_option maxRecDepth 100000 in
set_option maxRecDepth 100000 in
instance partRatio3_1_0Int (s0 : Bool) (n0 : Nat) (d0 : Nat) (s1 : Bool) (n1 : Nat) (d1 : Nat) (s2 : Bool) (n2 : Nat) (d2 : Nat) : Part Try.prog 26 (a3rc s0 n0 d0 s1 n1 d1 s2 n2 d2) 17 (ic s1 n1) := Part.of (rowI _ _) (by kernel_rfl)
set_option maxRecDepth 100000 in
set_option maxRecDepth 100000 in
instance cellRatio3_1_0 (s0 : Bool) (n0 : Nat) (d0 : Nat) (s1 : Bool) (n1 : Nat) (d1 : Nat) (s2 : Bool) (n2 : Nat) (d2 : Nat) : CellV Try.prog 4 (a3rc s0 n0 d0 s1 n1 d1 s2 n2 d2) 17 (.bool s1) := ⟨⟨by kernel_rfl⟩, rfl⟩
set_option maxRecDepth 100000 in
@[simp] theorem a3rc_17 (s0 : Bool) (n0 : Nat) (d0 : Nat) (s1 : Bool) (n1 : Nat) (d1 : Nat) (s2 : Bool) (n2 : Nat) (d2 : Nat) : (a3rc s0 n0 d0 s1 n1 d1 s2 n2 d2)[17]? = some (.bool s1) := rfl
set_option maxRecDepth 100000 in
set_option maxRecDepth 100000 in
instance partRatio3_1_1Wide (s0 : Bool) (n0 : Nat) (d0 : Nat) (s1 : Bool) (n1 : Nat) (d1 : Nat) (s2 : Bool) (n2 : Nat) (d2 : Nat) : Part Try.prog 24 (a3rc s0 n0 d0 s1 n1 d1 s2 n2 d2) 18 (cells 8 n1) := Part.of (by rw [cells_size]; exact rowW) (by kernel_rfl)
set_option maxRecDepth 100000 in
set_option maxRecDepth 100000 in
instance partRatio3_1_9Wide (s0 : Bool) (n0 : Nat) (d0 : Nat) (s1 : Bool) (n1 : Nat) (d1 : Nat) (s2 : Bool) (n2 : Nat) (d2 : Nat) : Part Try.prog 24 (a3rc s0 n0 d0 s1 n1 d1 s2 n2 d2) 26 (cells 8 d1) := Part.of (by rw [cells_size]; exact rowW) (by kernel_rfl)
set_option maxRecDepth 100000 in
set_option maxRecDepth 100000 in
instance partRatio3_2 (s0 : Bool) (n0 : Nat) (d0 : Nat) (s1 : Bool) (n1 : Nat) (d1 : Nat) (s2 : Bool) (n2 : Nat) (d2 : Nat) : Part Try.prog 28 (a3rc s0 n0 d0 s1 n1 d1 s2 n2 d2) 34 (rc s2 n2 d2) := Part.of (rowRatio _ _ _) (by kernel_rfl)
set_option maxRecDepth 100000 in
set_option maxRecDepth 100000 in
instance partRatio3_2_0Int (s0 : Bool) (n0 : Nat) (d0 : Nat) (s1 : Bool) (n1 : Nat) (d1 : Nat) (s2 : Bool) (n2 : Nat) (d2 : Nat) : Part Try.prog 26 (a3rc s0 n0 d0 s1 n1 d1 s2 n2 d2) 34 (ic s2 n2) := Part.of (rowI _ _) (by kernel_rfl)
set_option maxRecDepth 100000 in
set_option maxRecDepth 100000 in
instance cellRatio3_2_0 (s0 : Bool) (n0 : Nat) (d0 : Nat) (s1 : Bool) (n1 : Nat) (d1 : Nat) (s2 : Bool) (n2 : Nat) (d2 : Nat) : CellV Try.prog 4 (a3rc s0 n0 d0 s1 n1 d1 s2 n2 d2) 34 (.bool s2) := ⟨⟨by kernel_rfl⟩, rfl⟩
set_option maxRecDepth 100000 in
@[simp] theorem a3rc_34 (s0 : Bool) (n0 : Nat) (d0 : Nat) (s1 : Bool) (n1 : Nat) (d1 : Nat) (s2 : Bool) (n2 : Nat) (d2 : Nat) : (a3rc s0 n0 d0 s1 n1 d1 s2 n2 d2)[34]? = some (.bool s2) := rfl
set_option maxRecDepth 100000 in
set_option maxRecDepth 100000 in
instance partRatio3_2_1Wide (s0 : Bool) (n0 : Nat) (d0 : Nat) (s1 : Bool) (n1 : Nat) (d1 : Nat) (s2 : Bool) (n2 : Nat) (d2 : Nat) : Part Try.prog 24 (a3rc s0 n0 d0 s1 n1 d1 s2 n2 d2) 35 (cells 8 n2) := Part.of (by rw [cells_size]; exact rowW) (by kernel_rfl)
set_option maxRecDepth 100000 in
set_option maxRecDepth 100000 in
instance partRatio3_2_9Wide (s0 : Bool) (n0 : Nat) (d0 : Nat) (s1 : Bool) (n1 : Nat) (d1 : Nat) (s2 : Bool) (n2 : Nat) (d2 : Nat) : Part Try.prog 24 (a3rc s0 n0 d0 s1 n1 d1 s2 n2 d2) 43 (cells 8 d2) := Part.of (by rw [cells_size]; exact rowW) (by kernel_rfl)
set_option maxRecDepth 100000 in
set_option maxRecDepth 100000 in
theorem openRatio3 {H : Type} {enc : TypeId × Value → H} {w₀ : World} {base : Nat} {sp : Nat → Bool} {held : Bool} {r : Reach} {b0 : Nat} {v : Value} {d : DataW H} {p : List MemPlace} (hv : Value.okWide Try.prog w₀ r b0 53 v) (h : DataW.Trod enc Try.prog w₀ base sp held 53 v d p) : ∃ (s0 : Bool) (n0 : Nat) (d0 : Nat) (s1 : Bool) (n1 : Nat) (d1 : Nat) (s2 : Bool) (n2 : Nat) (d2 : Nat), n0 < M ∧ d0 < M ∧ n1 < M ∧ d1 < M ∧ n2 < M ∧ d2 < M ∧ v = .agg (a3rc s0 n0 d0 s1 n1 d1 s2 n2 d2) := by
  obtain ⟨cs, rfl, hr⟩ := KM.open_row (by kernel_rfl) hv h
  obtain ⟨hl, hs⟩ := KM.read_array (k := 17) Try.underlying53 (by kernel_rfl) 51 (by kernel_rfl) hr
  obtain ⟨s0, n0, d0, b0_0, b0_1, e0⟩ := readRatio (hs 0 (by decide))
  obtain ⟨s1, n1, d1, b1_0, b1_1, e1⟩ := readRatio (hs 1 (by decide))
  obtain ⟨s2, n2, d2, b2_0, b2_1, e2⟩ := readRatio (hs 2 (by decide))
  refine ⟨s0, n0, d0, s1, n1, d1, s2, n2, d2, b0_0, b0_1, b1_0, b1_1, b2_0, b2_1, congrArg Value.agg (Array.toList_inj.1 (KM.glue0 [(17, (rc s0 n0 d0).toList), (17, (rc s1 n1 d1).toList), (17, (rc s2 n2 d2).toList)] ⟨e0, e1, e2, hl⟩ (by kernel_rfl)))⟩
def a4ic (x0 : Int) (x1 : Int) (x2 : Int) (x3 : Int) : Array Value := #[.int .i64 x0, .int .i64 x1, .int .i64 x2, .int .i64 x3]
set_option maxRecDepth 100000 in
set_option maxRecDepth 100000 in
theorem rowint4 (x0 : Int) (x1 : Int) (x2 : Int) (x3 : Int) : Row Try.prog 49 (a4ic x0 x1 x2 x3).size := ⟨by kernel_rfl, by kernel_rfl⟩
set_option maxRecDepth 100000 in
set_option maxRecDepth 100000 in
instance celint4 (x0 : Int) (x1 : Int) (x2 : Int) (x3 : Int) : Cel Try.prog 49 (a4ic x0 x1 x2 x3) := ⟨rowint4 x0 x1 x2 x3, by kernel_rfl⟩
set_option maxRecDepth 100000 in
set_option maxRecDepth 100000 in
instance cellint4_0 (x0 : Int) (x1 : Int) (x2 : Int) (x3 : Int) : CellV Try.prog 3 (a4ic x0 x1 x2 x3) 0 (.int .i64 x0) := ⟨⟨by kernel_rfl⟩, rfl⟩
set_option maxRecDepth 100000 in
@[simp] theorem a4ic_0 (x0 : Int) (x1 : Int) (x2 : Int) (x3 : Int) : (a4ic x0 x1 x2 x3)[0]? = some (.int .i64 x0) := rfl
set_option maxRecDepth 100000 in
set_option maxRecDepth 100000 in
instance cellint4_1 (x0 : Int) (x1 : Int) (x2 : Int) (x3 : Int) : CellV Try.prog 3 (a4ic x0 x1 x2 x3) 1 (.int .i64 x1) := ⟨⟨by kernel_rfl⟩, rfl⟩
set_option maxRecDepth 100000 in
@[simp] theorem a4ic_1 (x0 : Int) (x1 : Int) (x2 : Int) (x3 : Int) : (a4ic x0 x1 x2 x3)[1]? = some (.int .i64 x1) := rfl
set_option maxRecDepth 100000 in
set_option maxRecDepth 100000 in
instance cellint4_2 (x0 : Int) (x1 : Int) (x2 : Int) (x3 : Int) : CellV Try.prog 3 (a4ic x0 x1 x2 x3) 2 (.int .i64 x2) := ⟨⟨by kernel_rfl⟩, rfl⟩
set_option maxRecDepth 100000 in
@[simp] theorem a4ic_2 (x0 : Int) (x1 : Int) (x2 : Int) (x3 : Int) : (a4ic x0 x1 x2 x3)[2]? = some (.int .i64 x2) := rfl
set_option maxRecDepth 100000 in
set_option maxRecDepth 100000 in
instance cellint4_3 (x0 : Int) (x1 : Int) (x2 : Int) (x3 : Int) : CellV Try.prog 3 (a4ic x0 x1 x2 x3) 3 (.int .i64 x3) := ⟨⟨by kernel_rfl⟩, rfl⟩
set_option maxRecDepth 100000 in
@[simp] theorem a4ic_3 (x0 : Int) (x1 : Int) (x2 : Int) (x3 : Int) : (a4ic x0 x1 x2 x3)[3]? = some (.int .i64 x3) := rfl
set_option maxRecDepth 100000 in
set_option maxRecDepth 100000 in
theorem openint4 {H : Type} {enc : TypeId × Value → H} {w₀ : World} {base : Nat} {sp : Nat → Bool} {held : Bool} {r : Reach} {b0 : Nat} {v : Value} {d : DataW H} {p : List MemPlace} (hv : Value.okWide Try.prog w₀ r b0 49 v) (h : DataW.Trod enc Try.prog w₀ base sp held 49 v d p) : ∃ (x0 : Int) (x1 : Int) (x2 : Int) (x3 : Int), (-9223372036854775808 ≤ x0 ∧ x0 ≤ 9223372036854775807) ∧ (-9223372036854775808 ≤ x1 ∧ x1 ≤ 9223372036854775807) ∧ (-9223372036854775808 ≤ x2 ∧ x2 ≤ 9223372036854775807) ∧ (-9223372036854775808 ≤ x3 ∧ x3 ≤ 9223372036854775807) ∧ v = .agg (a4ic x0 x1 x2 x3) := by
  obtain ⟨cs, rfl, hr⟩ := KM.open_row (by kernel_rfl) hv h
  obtain ⟨hl, hs⟩ := KM.read_array (k := 1) Try.underlying49 (by kernel_rfl) 4 (by kernel_rfl) hr
  obtain ⟨x0, b0_0, e0⟩ := KM.read_i64 Try.underlying3 (hs 0 (by decide))
  obtain ⟨x1, b1_0, e1⟩ := KM.read_i64 Try.underlying3 (hs 1 (by decide))
  obtain ⟨x2, b2_0, e2⟩ := KM.read_i64 Try.underlying3 (hs 2 (by decide))
  obtain ⟨x3, b3_0, e3⟩ := KM.read_i64 Try.underlying3 (hs 3 (by decide))
  refine ⟨x0, x1, x2, x3, b0_0, b1_0, b2_0, b3_0, congrArg Value.agg (Array.toList_inj.1 (KM.glue0 [(1, [.int .i64 x0]), (1, [.int .i64 x1]), (1, [.int .i64 x2]), (1, [.int .i64 x3])] ⟨e0, e1, e2, e3, hl⟩ (by kernel_rfl)))⟩
end Go.Proofs.Ytpcbnciihohdjaa.RatW
