/-
  Texts of the layers below in one: PtMath Pt PtFn PtFn2 PtFn3 PtRef PtArgs.
-/
import Derived.Test.YtacicfmalhhceaaGreatDoorRows
import Derived.WalkKit
import Derived.Test.YtacicfmalhhceaaGreatDoorBase
import Derived.LoopTactic
/- Points of the grid: plain arithmetic. -/
namespace PtM
open Go
/-- twice the area of three points -/
def crs (x y z u s t : Int) : Int := (z - x) * (t - y) - (u - y) * (s - x)
/-- how far the third goes along the line of both others -/
def dts (x y z u s t : Int) : Int := (z - x) * (s - x) + (u - y) * (t - y)
theorem mul_bd {p s : Int} (h1 : -1073741824 ≤ p) (h1' : p ≤ 1073741824) (h2 : -1073741824 ≤ s) (h2' : s ≤ 1073741824) : -1152921504606846976 ≤ p * s ∧ p * s ≤ 1152921504606846976 := by
  have h : (p * s).natAbs ≤ 1073741824 * 1073741824 := by rw [Int.natAbs_mul]; exact Nat.mul_le_mul (by omega) (by omega)
  generalize p * s = r at *
  omega
theorem mul_bd' {p s : Int} (h1 : -536870912 ≤ p) (h1' : p ≤ 536870912) (h2 : -536870912 ≤ s) (h2' : s ≤ 536870912) : -288230376151711744 ≤ p * s ∧ p * s ≤ 288230376151711744 := by
  have h : (p * s).natAbs ≤ 536870912 * 536870912 := by rw [Int.natAbs_mul]; exact Nat.mul_le_mul (by omega) (by omega)
  generalize p * s = r at *
  omega
theorem crs_sum (x y z u s t : Int) : crs x y z u s t = x * u - z * y + z * t - s * u + s * y - x * t := by
  unfold crs; grind
theorem crs_swap (x y z u s t : Int) : crs z u x y s t = -crs x y z u s t := by
  unfold crs; grind
theorem crs_round (x y z u s t : Int) : crs z u s t x y = crs x y z u s t := by
  unfold crs; grind
theorem crs_turn (x y z u s t : Int) : crs (-y) x (-u) z (-t) s = crs x y z u s t := by
  unfold crs; grind
theorem dts_turn (x y z u s t : Int) : dts (-y) x (-u) z (-t) s = dts x y z u s t := by
  unfold dts; grind
theorem dts_zero (x y z u : Int) : dts x y z u z u = 0 ↔ x = z ∧ y = u := by
  unfold dts
  constructor
  · intro h
    have h1 : 0 ≤ (z - x) * (z - x) := by
      rcases Int.le_total 0 (z - x) with h | h
      · exact Int.mul_nonneg h h
      · exact Int.mul_nonneg_of_nonpos_of_nonpos h h
    have h2 : 0 ≤ (u - y) * (u - y) := by
      rcases Int.le_total 0 (u - y) with h | h
      · exact Int.mul_nonneg h h
      · exact Int.mul_nonneg_of_nonpos_of_nonpos h h
    have h3 : (z - x) * (z - x) = 0 := by omega
    have h4 : (u - y) * (u - y) = 0 := by omega
    have h5 := Int.mul_eq_zero.1 h3
    have h6 := Int.mul_eq_zero.1 h4
    omega
  · rintro ⟨rfl, rfl⟩
    simp
/-- turned by so many quarters -/
def tx (k : Nat) (x y : Int) : Int := match k with | 0 => x | 1 => -y | 2 => -x | _ => y
def ty (k : Nat) (x y : Int) : Int := match k with | 0 => y | 1 => x | 2 => -y | _ => -x
/-- quarters modulo 4 -/
def qk (q : Int) : Nat := (q % 4).toNat
theorem qk_lt (q : Int) : qk q < 4 := by unfold qk; omega
theorem qk_go (q : Int) : ((Int.tmod q 4) + 4).tmod 4 = (qk q : Int) := by
  unfold qk
  rw [Int.toNat_of_nonneg (by omega)]
  have h1 : -4 < Int.tmod q 4 := by have := Int.tmod_lt_of_pos (-q) (show (0 : Int) < 4 by omega); rw [Int.neg_tmod] at this; omega
  have h2 : Int.tmod q 4 < 4 := Int.tmod_lt_of_pos q (by omega)
  rw [Int.tmod_eq_emod_of_nonneg (by omega)]
  have h3 := Int.tmod_eq_emod (a := q) (b := 4)
  rw [h3]
  split <;> omega
theorem tx_next {k : Nat} (h : k < 3) (x y : Int) : tx (k + 1) x y = -ty k x y := by
  match k, h with
  | 0, _ => rfl
  | 1, _ => rfl
  | 2, _ => exact (Int.neg_neg y).symm
theorem ty_next {k : Nat} (h : k < 3) (x y : Int) : ty (k + 1) x y = tx k x y := by
  match k, h with
  | 0, _ => rfl
  | 1, _ => rfl
  | 2, _ => rfl
theorem ty_bd {k : Nat} {x y : Int} (h1 : -536870912 ≤ x) (h1' : x ≤ 536870912) (h2 : -536870912 ≤ y) (h2' : y ≤ 536870912) : (-536870912 ≤ tx k x y ∧ tx k x y ≤ 536870912) ∧ (-536870912 ≤ ty k x y ∧ ty k x y ≤ 536870912) := by
  unfold tx ty
  split <;> omega
theorem min_go (x z : Int) : (if z < x then z else x) = min x z := by
  split <;> omega
theorem max_go (x z : Int) : (if x < z then z else x) = max x z := by
  split <;> omega
theorem crs_turned (k : Nat) (x y z u s t : Int) : crs (tx k x y) (ty k x y) (tx k z u) (ty k z u) (tx k s t) (ty k s t) = crs x y z u s t := by
  match k with
  | 0 => rfl
  | 1 => exact crs_turn x y z u s t
  | 2 => show crs (-x) (-y) (-z) (-u) (-s) (-t) = _; rw [crs_turn (-y) x (-u) z (-t) s, crs_turn]
  | _ + 3 => show crs y (-x) u (-z) t (-s) = _; rw [← crs_turn y (-x) u (-z) t (-s), Int.neg_neg, Int.neg_neg, Int.neg_neg]
theorem dts_turned (k : Nat) (x y z u s t : Int) : dts (tx k x y) (ty k x y) (tx k z u) (ty k z u) (tx k s t) (ty k s t) = dts x y z u s t := by
  match k with
  | 0 => rfl
  | 1 => exact dts_turn x y z u s t
  | 2 => show dts (-x) (-y) (-z) (-u) (-s) (-t) = _; rw [dts_turn (-y) x (-u) z (-t) s, dts_turn]
  | _ + 3 => show dts y (-x) u (-z) t (-s) = _; rw [← dts_turn y (-x) u (-z) t (-s), Int.neg_neg, Int.neg_neg, Int.neg_neg]
theorem crs_bd {x y z u s t : Int} (h1 : -536870912 ≤ x) (h1' : x ≤ 536870912) (h2 : -536870912 ≤ y) (h2' : y ≤ 536870912) (h3 : -536870912 ≤ z) (h3' : z ≤ 536870912) (h4 : -536870912 ≤ u) (h4' : u ≤ 536870912)
    (h5 : -536870912 ≤ s) (h5' : s ≤ 536870912) (h6 : -536870912 ≤ t) (h6' : t ≤ 536870912) : -2305843009213693952 ≤ crs x y z u s t ∧ crs x y z u s t ≤ 2305843009213693952 := by
  have c1 := @mul_bd (z - x) (t - y) (by omega) (by omega) (by omega) (by omega)
  have c2 := @mul_bd (u - y) (s - x) (by omega) (by omega) (by omega) (by omega)
  unfold crs
  omega
end PtM

/- Structs by their cells: Pt, Seg, Pt*3. -/
namespace Go.Proofs.YtacicfmalhhceaaGreatDoor.PtW
open Go.RowKit
open KM
set_option maxRecDepth 100000 in
instance scalB : Scal Tryz.prog 4 := ⟨by kernel_rfl⟩
set_option maxRecDepth 100000 in
instance scalI : Scal Tryz.prog 3 := ⟨by kernel_rfl⟩
def ptc (x : Int) (y : Int) : Array Value := #[.int .i64 x, .int .i64 y]
abbrev ptv (x : Int) (y : Int) : Value := .agg (ptc x y)
set_option maxRecDepth 100000 in
theorem ptc_size (x : Int) (y : Int) : (ptc x y).size = 2 := rfl
set_option maxRecDepth 100000 in
theorem rowPt (x : Int) (y : Int) : Row Tryz.prog 30 (ptc x y).size := ⟨by kernel_rfl, by kernel_rfl⟩
set_option maxRecDepth 100000 in
instance celPt (x : Int) (y : Int) : Cel Tryz.prog 30 (ptc x y) := ⟨rowPt x y, by kernel_rfl⟩
set_option maxRecDepth 100000 in
@[simp] theorem ptc_0 (x : Int) (y : Int) : (ptc x y)[0]? = some (.int .i64 x) := rfl
set_option maxRecDepth 100000 in
@[simp] theorem ptc_0' (x : Int) (y : Int) (h : 0 < (ptc x y).size) : (ptc x y)[0]'h = .int .i64 x := rfl
set_option maxRecDepth 100000 in
instance cellPt_0 (x : Int) (y : Int) : CellV Tryz.prog 3 (ptc x y) 0 (.int .i64 x) := ⟨⟨by kernel_rfl⟩, rfl⟩
set_option maxRecDepth 100000 in
instance putPt_0 (x : Int) (y : Int) (x₂ : Int) : PutV Tryz.prog 3 (ptc x y) 0 (.int .i64 x₂) (ptc x₂ y) := ⟨by kernel_rfl, rfl, rfl, by rw [ptc_size]; decide, rfl⟩
set_option maxRecDepth 100000 in
@[simp] theorem ptc_1 (x : Int) (y : Int) : (ptc x y)[1]? = some (.int .i64 y) := rfl
set_option maxRecDepth 100000 in
@[simp] theorem ptc_1' (x : Int) (y : Int) (h : 1 < (ptc x y).size) : (ptc x y)[1]'h = .int .i64 y := rfl
set_option maxRecDepth 100000 in
instance cellPt_1 (x : Int) (y : Int) : CellV Tryz.prog 3 (ptc x y) 1 (.int .i64 y) := ⟨⟨by kernel_rfl⟩, rfl⟩
set_option maxRecDepth 100000 in
instance putPt_1 (x : Int) (y : Int) (y₂ : Int) : PutV Tryz.prog 3 (ptc x y) 1 (.int .i64 y₂) (ptc x y₂) := ⟨by kernel_rfl, rfl, rfl, by rw [ptc_size]; decide, rfl⟩
set_option maxRecDepth 100000 in
instance putPt (x : Int) (y : Int) (x' : Int) (y' : Int) : PutP Tryz.prog 30 (ptc x y) 0 (ptc x' y') (ptc x' y') := PutP.of inferInstance rfl
set_option maxRecDepth 100000 in
instance zerPt : ZeroC Tryz.prog 30 (ptc 0 0) := ⟨by unfold KM.Zero; kernel_rfl⟩
section
variable {ops : Array Oper} {Q : Exit → Act → World → Prop} {rest : List Oper} {a : Act} {w : World} {d₀ : Option Tmp} {ty : TypeId} {ps : String} {af : Array Edge} {gd : Option (Nat × Bool)} {x0 : Operand} {x1 : Operand} {x : Int} {y : Int}
set_option maxRecDepth 100000 in
theorem exec_Pt_  (w : World) : (execOp a.eval ⟨d₀, .build 30 #[], ty, ps, af, gd⟩).run Tryz.prog w = .ok (.value (.agg (ptc 0 0))) w := exec_build (by kernel_rfl) w
set_option maxRecDepth 100000 in
theorem ls_Pt_  (h : wpList Tryz.prog ops Q rest (a.put d₀ (.agg (ptc 0 0))) w) : wpList Tryz.prog ops Q (⟨d₀, .build 30 #[], ty, ps, af, none⟩ :: rest) a w := ls_value (exec_Pt_  w) h
set_option maxRecDepth 100000 in
theorem lsg_Pt_ (hw : Region.wanted ⟨d₀, .build 30 #[], ty, ps, af, gd⟩ (yielded ops a.tmps) = true)  (h : wpList Tryz.prog ops Q rest (a.put d₀ (.agg (ptc 0 0))) w) : wpList Tryz.prog ops Q (⟨d₀, .build 30 #[], ty, ps, af, gd⟩ :: rest) a w := lsg_value hw (exec_Pt_  w) h
set_option maxRecDepth 100000 in
theorem qq_Pt_ {C : World → Prop} {TQ : Act → Prop}  (hw : Region.wanted ⟨d₀, .build 30 #[], ty, ps, af, gd⟩ (yielded ops a.tmps) = true) (h : QQ Tryz.prog ops C TQ rest (a.put d₀ (.agg (ptc 0 0)))) : QQ Tryz.prog ops C TQ (⟨d₀, .build 30 #[], ty, ps, af, gd⟩ :: rest) a := qq_value (fun w => exec_Pt_  w) hw h
set_option maxRecDepth 100000 in
theorem mm_Pt_ {W : World} {L Lc : List Ent} {r₀ : List St}  (h : MM Tryz.prog Q W Lc r₀ (a.put d₀ (.agg (ptc 0 0))) L) : MM Tryz.prog Q W Lc (.take ⟨d₀, .build 30 #[], ty, ps, af, none⟩ :: r₀) a L := mm_value (fun w => exec_Pt_  w) h
set_option maxRecDepth 100000 in
theorem exec_Pt_0 (h0 : a.eval x0 = .int .i64 x) (w : World) : (execOp a.eval ⟨d₀, .build 30 #[(0, x0)], ty, ps, af, gd⟩).run Tryz.prog w = .ok (.value (.agg (ptc x 0))) w := exec_build (by simp only [List.map_toArray, List.map_cons, List.map_nil, h0]; kernel_rfl) w
set_option maxRecDepth 100000 in
theorem ls_Pt_0 (h0 : a.eval x0 = .int .i64 x) (h : wpList Tryz.prog ops Q rest (a.put d₀ (.agg (ptc x 0))) w) : wpList Tryz.prog ops Q (⟨d₀, .build 30 #[(0, x0)], ty, ps, af, none⟩ :: rest) a w := ls_value (exec_Pt_0 h0 w) h
set_option maxRecDepth 100000 in
theorem lsg_Pt_0 (hw : Region.wanted ⟨d₀, .build 30 #[(0, x0)], ty, ps, af, gd⟩ (yielded ops a.tmps) = true) (h0 : a.eval x0 = .int .i64 x) (h : wpList Tryz.prog ops Q rest (a.put d₀ (.agg (ptc x 0))) w) : wpList Tryz.prog ops Q (⟨d₀, .build 30 #[(0, x0)], ty, ps, af, gd⟩ :: rest) a w := lsg_value hw (exec_Pt_0 h0 w) h
set_option maxRecDepth 100000 in
theorem qq_Pt_0 {C : World → Prop} {TQ : Act → Prop} (h0 : a.eval x0 = .int .i64 x) (hw : Region.wanted ⟨d₀, .build 30 #[(0, x0)], ty, ps, af, gd⟩ (yielded ops a.tmps) = true) (h : QQ Tryz.prog ops C TQ rest (a.put d₀ (.agg (ptc x 0)))) : QQ Tryz.prog ops C TQ (⟨d₀, .build 30 #[(0, x0)], ty, ps, af, gd⟩ :: rest) a := qq_value (fun w => exec_Pt_0 h0 w) hw h
set_option maxRecDepth 100000 in
theorem mm_Pt_0 {W : World} {L Lc : List Ent} {r₀ : List St} (h0 : a.eval x0 = .int .i64 x) (h : MM Tryz.prog Q W Lc r₀ (a.put d₀ (.agg (ptc x 0))) L) : MM Tryz.prog Q W Lc (.take ⟨d₀, .build 30 #[(0, x0)], ty, ps, af, none⟩ :: r₀) a L := mm_value (fun w => exec_Pt_0 h0 w) h
set_option maxRecDepth 100000 in
theorem exec_Pt_1 (h1 : a.eval x1 = .int .i64 y) (w : World) : (execOp a.eval ⟨d₀, .build 30 #[(1, x1)], ty, ps, af, gd⟩).run Tryz.prog w = .ok (.value (.agg (ptc 0 y))) w := exec_build (by simp only [List.map_toArray, List.map_cons, List.map_nil, h1]; kernel_rfl) w
set_option maxRecDepth 100000 in
theorem ls_Pt_1 (h1 : a.eval x1 = .int .i64 y) (h : wpList Tryz.prog ops Q rest (a.put d₀ (.agg (ptc 0 y))) w) : wpList Tryz.prog ops Q (⟨d₀, .build 30 #[(1, x1)], ty, ps, af, none⟩ :: rest) a w := ls_value (exec_Pt_1 h1 w) h
set_option maxRecDepth 100000 in
theorem lsg_Pt_1 (hw : Region.wanted ⟨d₀, .build 30 #[(1, x1)], ty, ps, af, gd⟩ (yielded ops a.tmps) = true) (h1 : a.eval x1 = .int .i64 y) (h : wpList Tryz.prog ops Q rest (a.put d₀ (.agg (ptc 0 y))) w) : wpList Tryz.prog ops Q (⟨d₀, .build 30 #[(1, x1)], ty, ps, af, gd⟩ :: rest) a w := lsg_value hw (exec_Pt_1 h1 w) h
set_option maxRecDepth 100000 in
theorem qq_Pt_1 {C : World → Prop} {TQ : Act → Prop} (h1 : a.eval x1 = .int .i64 y) (hw : Region.wanted ⟨d₀, .build 30 #[(1, x1)], ty, ps, af, gd⟩ (yielded ops a.tmps) = true) (h : QQ Tryz.prog ops C TQ rest (a.put d₀ (.agg (ptc 0 y)))) : QQ Tryz.prog ops C TQ (⟨d₀, .build 30 #[(1, x1)], ty, ps, af, gd⟩ :: rest) a := qq_value (fun w => exec_Pt_1 h1 w) hw h
set_option maxRecDepth 100000 in
theorem mm_Pt_1 {W : World} {L Lc : List Ent} {r₀ : List St} (h1 : a.eval x1 = .int .i64 y) (h : MM Tryz.prog Q W Lc r₀ (a.put d₀ (.agg (ptc 0 y))) L) : MM Tryz.prog Q W Lc (.take ⟨d₀, .build 30 #[(1, x1)], ty, ps, af, none⟩ :: r₀) a L := mm_value (fun w => exec_Pt_1 h1 w) h
set_option maxRecDepth 100000 in
theorem exec_Pt (h0 : a.eval x0 = .int .i64 x) (h1 : a.eval x1 = .int .i64 y) (w : World) : (execOp a.eval ⟨d₀, .build 30 #[(0, x0), (1, x1)], ty, ps, af, gd⟩).run Tryz.prog w = .ok (.value (.agg (ptc x y))) w := exec_build (by simp only [List.map_toArray, List.map_cons, List.map_nil, h0, h1]; kernel_rfl) w
set_option maxRecDepth 100000 in
theorem ls_Pt (h0 : a.eval x0 = .int .i64 x) (h1 : a.eval x1 = .int .i64 y) (h : wpList Tryz.prog ops Q rest (a.put d₀ (.agg (ptc x y))) w) : wpList Tryz.prog ops Q (⟨d₀, .build 30 #[(0, x0), (1, x1)], ty, ps, af, none⟩ :: rest) a w := ls_value (exec_Pt h0 h1 w) h
set_option maxRecDepth 100000 in
theorem lsg_Pt (hw : Region.wanted ⟨d₀, .build 30 #[(0, x0), (1, x1)], ty, ps, af, gd⟩ (yielded ops a.tmps) = true) (h0 : a.eval x0 = .int .i64 x) (h1 : a.eval x1 = .int .i64 y) (h : wpList Tryz.prog ops Q rest (a.put d₀ (.agg (ptc x y))) w) : wpList Tryz.prog ops Q (⟨d₀, .build 30 #[(0, x0), (1, x1)], ty, ps, af, gd⟩ :: rest) a w := lsg_value hw (exec_Pt h0 h1 w) h
set_option maxRecDepth 100000 in
theorem qq_Pt {C : World → Prop} {TQ : Act → Prop} (h0 : a.eval x0 = .int .i64 x) (h1 : a.eval x1 = .int .i64 y) (hw : Region.wanted ⟨d₀, .build 30 #[(0, x0), (1, x1)], ty, ps, af, gd⟩ (yielded ops a.tmps) = true) (h : QQ Tryz.prog ops C TQ rest (a.put d₀ (.agg (ptc x y)))) : QQ Tryz.prog ops C TQ (⟨d₀, .build 30 #[(0, x0), (1, x1)], ty, ps, af, gd⟩ :: rest) a := qq_value (fun w => exec_Pt h0 h1 w) hw h
set_option maxRecDepth 100000 in
theorem mm_Pt {W : World} {L Lc : List Ent} {r₀ : List St} (h0 : a.eval x0 = .int .i64 x) (h1 : a.eval x1 = .int .i64 y) (h : MM Tryz.prog Q W Lc r₀ (a.put d₀ (.agg (ptc x y))) L) : MM Tryz.prog Q W Lc (.take ⟨d₀, .build 30 #[(0, x0), (1, x1)], ty, ps, af, none⟩ :: r₀) a L := mm_value (fun w => exec_Pt h0 h1 w) h
end
set_option maxRecDepth 100000 in
@[simp] theorem fieldPt_0 (x : Int) (y : Int) (w : World) : (Instr.field 30 (.agg (ptc x y)) 0).run Tryz.prog w = .ok (.int .i64 x) w := run_field (by kernel_rfl) (tf := 3) (o := 0) (by kernel_rfl) (fun w => run_part_plain w (by kernel_rfl) rfl) w
set_option maxRecDepth 100000 in
@[simp] theorem fieldPt_1 (x : Int) (y : Int) (w : World) : (Instr.field 30 (.agg (ptc x y)) 1).run Tryz.prog w = .ok (.int .i64 y) w := run_field (by kernel_rfl) (tf := 3) (o := 1) (by kernel_rfl) (fun w => run_part_plain w (by kernel_rfl) rfl) w
set_option maxRecDepth 100000 in
theorem eqlPt_d (k₀ : Nat) (x : Int) (y : Int) (x' : Int) (y' : Int)  (w : World) : (Op.equalIn (k₀ + 2) 30 (.agg (ptc x y)) (.agg (ptc x' y'))).run Tryz.prog w = .ok (x == x' && y == y') w :=
  eqStruct [(3, 0), (3, 1)] [x == x', y == y'] (by kernel_rfl) (by kernel_rfl) (by kernel_rfl) ⟨⟨.int .i64 x, .int .i64 x', run_part_plain w (by kernel_rfl) rfl, run_part_plain w (by kernel_rfl) rfl, run_equalIn_int w (k₀) _ .i64 .i64 _ _ Tryz.underlying3⟩, ⟨.int .i64 y, .int .i64 y', run_part_plain w (by kernel_rfl) rfl, run_part_plain w (by kernel_rfl) rfl, run_equalIn_int w (k₀) _ .i64 .i64 _ _ Tryz.underlying3⟩, trivial⟩
set_option maxRecDepth 100000 in
theorem eqlPt (x : Int) (y : Int) (x' : Int) (y' : Int)  (w : World) : (Op.equalIn 10000 30 (.agg (ptc x y)) (.agg (ptc x' y'))).run Tryz.prog w = .ok (x == x' && y == y') w := at_depth (P := fun k => (Op.equalIn k _ _ _).run _ w = _) (show 10000 = 9998 + 2 from rfl) (eqlPt_d 9998 x y x' y'  w)
set_option maxRecDepth 100000 in
theorem selfPt_d (k₀ : Nat) (x : Int) (y : Int) (w : World) : (Op.equalIn (k₀ + 2) 30 (.agg (ptc x y)) (.agg (ptc x y))).run Tryz.prog w = .ok true w :=
  eqStruct [(3, 0), (3, 1)] [true, true] (by kernel_rfl) (by kernel_rfl) (by kernel_rfl) ⟨⟨.int .i64 x, .int .i64 x, run_part_plain w (by kernel_rfl) rfl, run_part_plain w (by kernel_rfl) rfl, (run_equalIn_int w (k₀) _ .i64 .i64 _ _ Tryz.underlying3).trans (by simp)⟩, ⟨.int .i64 y, .int .i64 y, run_part_plain w (by kernel_rfl) rfl, run_part_plain w (by kernel_rfl) rfl, (run_equalIn_int w (k₀) _ .i64 .i64 _ _ Tryz.underlying3).trans (by simp)⟩, trivial⟩
set_option maxRecDepth 100000 in
@[simp] theorem selfPt (x : Int) (y : Int) (w : World) : (Op.equalIn 10000 30 (.agg (ptc x y)) (.agg (ptc x y))).run Tryz.prog w = .ok true w := at_depth (P := fun k => (Op.equalIn k _ _ _).run _ w = _) (show 10000 = 9998 + 2 from rfl) (selfPt_d 9998 x y w)
def sgc (x : Int) (y : Int) (z : Int) (u : Int) : Array Value := #[.int .i64 x, .int .i64 y, .int .i64 z, .int .i64 u]
abbrev sgv (x : Int) (y : Int) (z : Int) (u : Int) : Value := .agg (sgc x y z u)
set_option maxRecDepth 100000 in
theorem sgc_size (x : Int) (y : Int) (z : Int) (u : Int) : (sgc x y z u).size = 4 := rfl
set_option maxRecDepth 100000 in
theorem rowSeg (x : Int) (y : Int) (z : Int) (u : Int) : Row Tryz.prog 54 (sgc x y z u).size := ⟨by kernel_rfl, by kernel_rfl⟩
set_option maxRecDepth 100000 in
instance celSeg (x : Int) (y : Int) (z : Int) (u : Int) : Cel Tryz.prog 54 (sgc x y z u) := ⟨rowSeg x y z u, by kernel_rfl⟩
set_option maxRecDepth 100000 in
instance partSeg_0Pt (x : Int) (y : Int) (z : Int) (u : Int) : Part Tryz.prog 30 (sgc x y z u) 0 (ptc x y) := Part.of (rowPt _ _) (by kernel_rfl)
set_option maxRecDepth 100000 in
instance putSeg_0Pt (x : Int) (y : Int) (z : Int) (u : Int) (x₂ : Int) (y₂ : Int) : PutP Tryz.prog 30 (sgc x y z u) 0 (ptc x₂ y₂) (sgc x₂ y₂ z u) := ⟨rowPt _ _, by kernel_rfl, by rw [ptc_size]; exact (by decide : 0 + 2 ≤ 4), by kernel_rfl⟩
set_option maxRecDepth 100000 in
@[simp] theorem sgc_0 (x : Int) (y : Int) (z : Int) (u : Int) : (sgc x y z u)[0]? = some (.int .i64 x) := rfl
set_option maxRecDepth 100000 in
@[simp] theorem sgc_0' (x : Int) (y : Int) (z : Int) (u : Int) (h : 0 < (sgc x y z u).size) : (sgc x y z u)[0]'h = .int .i64 x := rfl
set_option maxRecDepth 100000 in
instance cellSeg_0 (x : Int) (y : Int) (z : Int) (u : Int) : CellV Tryz.prog 3 (sgc x y z u) 0 (.int .i64 x) := ⟨⟨by kernel_rfl⟩, rfl⟩
set_option maxRecDepth 100000 in
instance putSeg_0 (x : Int) (y : Int) (z : Int) (u : Int) (x₂ : Int) : PutV Tryz.prog 3 (sgc x y z u) 0 (.int .i64 x₂) (sgc x₂ y z u) := ⟨by kernel_rfl, rfl, rfl, by rw [sgc_size]; decide, rfl⟩
set_option maxRecDepth 100000 in
@[simp] theorem sgc_1 (x : Int) (y : Int) (z : Int) (u : Int) : (sgc x y z u)[1]? = some (.int .i64 y) := rfl
set_option maxRecDepth 100000 in
@[simp] theorem sgc_1' (x : Int) (y : Int) (z : Int) (u : Int) (h : 1 < (sgc x y z u).size) : (sgc x y z u)[1]'h = .int .i64 y := rfl
set_option maxRecDepth 100000 in
instance cellSeg_1 (x : Int) (y : Int) (z : Int) (u : Int) : CellV Tryz.prog 3 (sgc x y z u) 1 (.int .i64 y) := ⟨⟨by kernel_rfl⟩, rfl⟩
set_option maxRecDepth 100000 in
instance putSeg_1 (x : Int) (y : Int) (z : Int) (u : Int) (y₂ : Int) : PutV Tryz.prog 3 (sgc x y z u) 1 (.int .i64 y₂) (sgc x y₂ z u) := ⟨by kernel_rfl, rfl, rfl, by rw [sgc_size]; decide, rfl⟩
set_option maxRecDepth 100000 in
instance partSeg_2Pt (x : Int) (y : Int) (z : Int) (u : Int) : Part Tryz.prog 30 (sgc x y z u) 2 (ptc z u) := Part.of (rowPt _ _) (by kernel_rfl)
set_option maxRecDepth 100000 in
instance putSeg_2Pt (x : Int) (y : Int) (z : Int) (u : Int) (z₂ : Int) (u₂ : Int) : PutP Tryz.prog 30 (sgc x y z u) 2 (ptc z₂ u₂) (sgc x y z₂ u₂) := ⟨rowPt _ _, by kernel_rfl, by rw [ptc_size]; exact (by decide : 2 + 2 ≤ 4), by kernel_rfl⟩
set_option maxRecDepth 100000 in
@[simp] theorem sgc_2 (x : Int) (y : Int) (z : Int) (u : Int) : (sgc x y z u)[2]? = some (.int .i64 z) := rfl
set_option maxRecDepth 100000 in
@[simp] theorem sgc_2' (x : Int) (y : Int) (z : Int) (u : Int) (h : 2 < (sgc x y z u).size) : (sgc x y z u)[2]'h = .int .i64 z := rfl
set_option maxRecDepth 100000 in
instance cellSeg_2 (x : Int) (y : Int) (z : Int) (u : Int) : CellV Tryz.prog 3 (sgc x y z u) 2 (.int .i64 z) := ⟨⟨by kernel_rfl⟩, rfl⟩
set_option maxRecDepth 100000 in
instance putSeg_2 (x : Int) (y : Int) (z : Int) (u : Int) (z₂ : Int) : PutV Tryz.prog 3 (sgc x y z u) 2 (.int .i64 z₂) (sgc x y z₂ u) := ⟨by kernel_rfl, rfl, rfl, by rw [sgc_size]; decide, rfl⟩
set_option maxRecDepth 100000 in
@[simp] theorem sgc_3 (x : Int) (y : Int) (z : Int) (u : Int) : (sgc x y z u)[3]? = some (.int .i64 u) := rfl
set_option maxRecDepth 100000 in
@[simp] theorem sgc_3' (x : Int) (y : Int) (z : Int) (u : Int) (h : 3 < (sgc x y z u).size) : (sgc x y z u)[3]'h = .int .i64 u := rfl
set_option maxRecDepth 100000 in
instance cellSeg_3 (x : Int) (y : Int) (z : Int) (u : Int) : CellV Tryz.prog 3 (sgc x y z u) 3 (.int .i64 u) := ⟨⟨by kernel_rfl⟩, rfl⟩
set_option maxRecDepth 100000 in
instance putSeg_3 (x : Int) (y : Int) (z : Int) (u : Int) (u₂ : Int) : PutV Tryz.prog 3 (sgc x y z u) 3 (.int .i64 u₂) (sgc x y z u₂) := ⟨by kernel_rfl, rfl, rfl, by rw [sgc_size]; decide, rfl⟩
set_option maxRecDepth 100000 in
instance putSeg (x : Int) (y : Int) (z : Int) (u : Int) (x' : Int) (y' : Int) (z' : Int) (u' : Int) : PutP Tryz.prog 54 (sgc x y z u) 0 (sgc x' y' z' u') (sgc x' y' z' u') := PutP.of inferInstance rfl
set_option maxRecDepth 100000 in
instance zerSeg : ZeroC Tryz.prog 54 (sgc 0 0 0 0) := ⟨by unfold KM.Zero; kernel_rfl⟩
section
variable {ops : Array Oper} {Q : Exit → Act → World → Prop} {rest : List Oper} {a : Act} {w : World} {d₀ : Option Tmp} {ty : TypeId} {ps : String} {af : Array Edge} {gd : Option (Nat × Bool)} {x0 : Operand} {x1 : Operand} {x : Int} {y : Int} {z : Int} {u : Int}
set_option maxRecDepth 100000 in
theorem exec_Seg_  (w : World) : (execOp a.eval ⟨d₀, .build 54 #[], ty, ps, af, gd⟩).run Tryz.prog w = .ok (.value (.agg (sgc 0 0 0 0))) w := exec_build (by kernel_rfl) w
set_option maxRecDepth 100000 in
theorem ls_Seg_  (h : wpList Tryz.prog ops Q rest (a.put d₀ (.agg (sgc 0 0 0 0))) w) : wpList Tryz.prog ops Q (⟨d₀, .build 54 #[], ty, ps, af, none⟩ :: rest) a w := ls_value (exec_Seg_  w) h
set_option maxRecDepth 100000 in
theorem lsg_Seg_ (hw : Region.wanted ⟨d₀, .build 54 #[], ty, ps, af, gd⟩ (yielded ops a.tmps) = true)  (h : wpList Tryz.prog ops Q rest (a.put d₀ (.agg (sgc 0 0 0 0))) w) : wpList Tryz.prog ops Q (⟨d₀, .build 54 #[], ty, ps, af, gd⟩ :: rest) a w := lsg_value hw (exec_Seg_  w) h
set_option maxRecDepth 100000 in
theorem qq_Seg_ {C : World → Prop} {TQ : Act → Prop}  (hw : Region.wanted ⟨d₀, .build 54 #[], ty, ps, af, gd⟩ (yielded ops a.tmps) = true) (h : QQ Tryz.prog ops C TQ rest (a.put d₀ (.agg (sgc 0 0 0 0)))) : QQ Tryz.prog ops C TQ (⟨d₀, .build 54 #[], ty, ps, af, gd⟩ :: rest) a := qq_value (fun w => exec_Seg_  w) hw h
set_option maxRecDepth 100000 in
theorem mm_Seg_ {W : World} {L Lc : List Ent} {r₀ : List St}  (h : MM Tryz.prog Q W Lc r₀ (a.put d₀ (.agg (sgc 0 0 0 0))) L) : MM Tryz.prog Q W Lc (.take ⟨d₀, .build 54 #[], ty, ps, af, none⟩ :: r₀) a L := mm_value (fun w => exec_Seg_  w) h
set_option maxRecDepth 100000 in
theorem exec_Seg_0 (h0 : a.eval x0 = .agg (ptc x y)) (w : World) : (execOp a.eval ⟨d₀, .build 54 #[(0, x0)], ty, ps, af, gd⟩).run Tryz.prog w = .ok (.value (.agg (sgc x y 0 0))) w := exec_build (by simp only [List.map_toArray, List.map_cons, List.map_nil, h0]; kernel_rfl) w
set_option maxRecDepth 100000 in
theorem ls_Seg_0 (h0 : a.eval x0 = .agg (ptc x y)) (h : wpList Tryz.prog ops Q rest (a.put d₀ (.agg (sgc x y 0 0))) w) : wpList Tryz.prog ops Q (⟨d₀, .build 54 #[(0, x0)], ty, ps, af, none⟩ :: rest) a w := ls_value (exec_Seg_0 h0 w) h
set_option maxRecDepth 100000 in
theorem lsg_Seg_0 (hw : Region.wanted ⟨d₀, .build 54 #[(0, x0)], ty, ps, af, gd⟩ (yielded ops a.tmps) = true) (h0 : a.eval x0 = .agg (ptc x y)) (h : wpList Tryz.prog ops Q rest (a.put d₀ (.agg (sgc x y 0 0))) w) : wpList Tryz.prog ops Q (⟨d₀, .build 54 #[(0, x0)], ty, ps, af, gd⟩ :: rest) a w := lsg_value hw (exec_Seg_0 h0 w) h
set_option maxRecDepth 100000 in
theorem qq_Seg_0 {C : World → Prop} {TQ : Act → Prop} (h0 : a.eval x0 = .agg (ptc x y)) (hw : Region.wanted ⟨d₀, .build 54 #[(0, x0)], ty, ps, af, gd⟩ (yielded ops a.tmps) = true) (h : QQ Tryz.prog ops C TQ rest (a.put d₀ (.agg (sgc x y 0 0)))) : QQ Tryz.prog ops C TQ (⟨d₀, .build 54 #[(0, x0)], ty, ps, af, gd⟩ :: rest) a := qq_value (fun w => exec_Seg_0 h0 w) hw h
set_option maxRecDepth 100000 in
theorem mm_Seg_0 {W : World} {L Lc : List Ent} {r₀ : List St} (h0 : a.eval x0 = .agg (ptc x y)) (h : MM Tryz.prog Q W Lc r₀ (a.put d₀ (.agg (sgc x y 0 0))) L) : MM Tryz.prog Q W Lc (.take ⟨d₀, .build 54 #[(0, x0)], ty, ps, af, none⟩ :: r₀) a L := mm_value (fun w => exec_Seg_0 h0 w) h
set_option maxRecDepth 100000 in
theorem exec_Seg_1 (h1 : a.eval x1 = .agg (ptc z u)) (w : World) : (execOp a.eval ⟨d₀, .build 54 #[(1, x1)], ty, ps, af, gd⟩).run Tryz.prog w = .ok (.value (.agg (sgc 0 0 z u))) w := exec_build (by simp only [List.map_toArray, List.map_cons, List.map_nil, h1]; kernel_rfl) w
set_option maxRecDepth 100000 in
theorem ls_Seg_1 (h1 : a.eval x1 = .agg (ptc z u)) (h : wpList Tryz.prog ops Q rest (a.put d₀ (.agg (sgc 0 0 z u))) w) : wpList Tryz.prog ops Q (⟨d₀, .build 54 #[(1, x1)], ty, ps, af, none⟩ :: rest) a w := ls_value (exec_Seg_1 h1 w) h
set_option maxRecDepth 100000 in
theorem lsg_Seg_1 (hw : Region.wanted ⟨d₀, .build 54 #[(1, x1)], ty, ps, af, gd⟩ (yielded ops a.tmps) = true) (h1 : a.eval x1 = .agg (ptc z u)) (h : wpList Tryz.prog ops Q rest (a.put d₀ (.agg (sgc 0 0 z u))) w) : wpList Tryz.prog ops Q (⟨d₀, .build 54 #[(1, x1)], ty, ps, af, gd⟩ :: rest) a w := lsg_value hw (exec_Seg_1 h1 w) h
set_option maxRecDepth 100000 in
theorem qq_Seg_1 {C : World → Prop} {TQ : Act → Prop} (h1 : a.eval x1 = .agg (ptc z u)) (hw : Region.wanted ⟨d₀, .build 54 #[(1, x1)], ty, ps, af, gd⟩ (yielded ops a.tmps) = true) (h : QQ Tryz.prog ops C TQ rest (a.put d₀ (.agg (sgc 0 0 z u)))) : QQ Tryz.prog ops C TQ (⟨d₀, .build 54 #[(1, x1)], ty, ps, af, gd⟩ :: rest) a := qq_value (fun w => exec_Seg_1 h1 w) hw h
set_option maxRecDepth 100000 in
theorem mm_Seg_1 {W : World} {L Lc : List Ent} {r₀ : List St} (h1 : a.eval x1 = .agg (ptc z u)) (h : MM Tryz.prog Q W Lc r₀ (a.put d₀ (.agg (sgc 0 0 z u))) L) : MM Tryz.prog Q W Lc (.take ⟨d₀, .build 54 #[(1, x1)], ty, ps, af, none⟩ :: r₀) a L := mm_value (fun w => exec_Seg_1 h1 w) h
set_option maxRecDepth 100000 in
theorem exec_Seg (h0 : a.eval x0 = .agg (ptc x y)) (h1 : a.eval x1 = .agg (ptc z u)) (w : World) : (execOp a.eval ⟨d₀, .build 54 #[(0, x0), (1, x1)], ty, ps, af, gd⟩).run Tryz.prog w = .ok (.value (.agg (sgc x y z u))) w := exec_build (by simp only [List.map_toArray, List.map_cons, List.map_nil, h0, h1]; kernel_rfl) w
set_option maxRecDepth 100000 in
theorem ls_Seg (h0 : a.eval x0 = .agg (ptc x y)) (h1 : a.eval x1 = .agg (ptc z u)) (h : wpList Tryz.prog ops Q rest (a.put d₀ (.agg (sgc x y z u))) w) : wpList Tryz.prog ops Q (⟨d₀, .build 54 #[(0, x0), (1, x1)], ty, ps, af, none⟩ :: rest) a w := ls_value (exec_Seg h0 h1 w) h
set_option maxRecDepth 100000 in
theorem lsg_Seg (hw : Region.wanted ⟨d₀, .build 54 #[(0, x0), (1, x1)], ty, ps, af, gd⟩ (yielded ops a.tmps) = true) (h0 : a.eval x0 = .agg (ptc x y)) (h1 : a.eval x1 = .agg (ptc z u)) (h : wpList Tryz.prog ops Q rest (a.put d₀ (.agg (sgc x y z u))) w) : wpList Tryz.prog ops Q (⟨d₀, .build 54 #[(0, x0), (1, x1)], ty, ps, af, gd⟩ :: rest) a w := lsg_value hw (exec_Seg h0 h1 w) h
set_option maxRecDepth 100000 in
theorem qq_Seg {C : World → Prop} {TQ : Act → Prop} (h0 : a.eval x0 = .agg (ptc x y)) (h1 : a.eval x1 = .agg (ptc z u)) (hw : Region.wanted ⟨d₀, .build 54 #[(0, x0), (1, x1)], ty, ps, af, gd⟩ (yielded ops a.tmps) = true) (h : QQ Tryz.prog ops C TQ rest (a.put d₀ (.agg (sgc x y z u)))) : QQ Tryz.prog ops C TQ (⟨d₀, .build 54 #[(0, x0), (1, x1)], ty, ps, af, gd⟩ :: rest) a := qq_value (fun w => exec_Seg h0 h1 w) hw h
set_option maxRecDepth 100000 in
theorem mm_Seg {W : World} {L Lc : List Ent} {r₀ : List St} (h0 : a.eval x0 = .agg (ptc x y)) (h1 : a.eval x1 = .agg (ptc z u)) (h : MM Tryz.prog Q W Lc r₀ (a.put d₀ (.agg (sgc x y z u))) L) : MM Tryz.prog Q W Lc (.take ⟨d₀, .build 54 #[(0, x0), (1, x1)], ty, ps, af, none⟩ :: r₀) a L := mm_value (fun w => exec_Seg h0 h1 w) h
end
set_option maxRecDepth 100000 in
@[simp] theorem fieldSeg_0 (x : Int) (y : Int) (z : Int) (u : Int) (w : World) : (Instr.field 54 (.agg (sgc x y z u)) 0).run Tryz.prog w = .ok (.agg (ptc x y)) w := run_field (by kernel_rfl) (tf := 30) (o := 0) (by kernel_rfl) (fun w => part_row (by first | exact rowI _ _ | (rw [cells_size]; exact rowW) | exact rowPt _ _) (by kernel_rfl) w) w
set_option maxRecDepth 100000 in
@[simp] theorem fieldSeg_1 (x : Int) (y : Int) (z : Int) (u : Int) (w : World) : (Instr.field 54 (.agg (sgc x y z u)) 1).run Tryz.prog w = .ok (.agg (ptc z u)) w := run_field (by kernel_rfl) (tf := 30) (o := 2) (by kernel_rfl) (fun w => part_row (by first | exact rowI _ _ | (rw [cells_size]; exact rowW) | exact rowPt _ _) (by kernel_rfl) w) w
set_option maxRecDepth 100000 in
theorem eqlSeg_d (k₀ : Nat) (x : Int) (y : Int) (z : Int) (u : Int) (x' : Int) (y' : Int) (z' : Int) (u' : Int)  (w : World) : (Op.equalIn (k₀ + 3) 54 (.agg (sgc x y z u)) (.agg (sgc x' y' z' u'))).run Tryz.prog w = .ok ((x == x' && y == y') && (z == z' && u == u')) w :=
  eqStruct [(30, 0), (30, 2)] [(x == x' && y == y'), (z == z' && u == u')] (by kernel_rfl) (by kernel_rfl) (by kernel_rfl) ⟨⟨.agg (ptc x y), .agg (ptc x' y'), part_row (by first | exact rowI _ _ | (rw [cells_size]; exact rowW) | exact rowPt _ _) (by kernel_rfl) w, part_row (by first | exact rowI _ _ | (rw [cells_size]; exact rowW) | exact rowPt _ _) (by kernel_rfl) w, eqlPt_d (k₀) x y x' y'  w⟩, ⟨.agg (ptc z u), .agg (ptc z' u'), part_row (by first | exact rowI _ _ | (rw [cells_size]; exact rowW) | exact rowPt _ _) (by kernel_rfl) w, part_row (by first | exact rowI _ _ | (rw [cells_size]; exact rowW) | exact rowPt _ _) (by kernel_rfl) w, eqlPt_d (k₀) z u z' u'  w⟩, trivial⟩
set_option maxRecDepth 100000 in
theorem eqlSeg (x : Int) (y : Int) (z : Int) (u : Int) (x' : Int) (y' : Int) (z' : Int) (u' : Int)  (w : World) : (Op.equalIn 10000 54 (.agg (sgc x y z u)) (.agg (sgc x' y' z' u'))).run Tryz.prog w = .ok ((x == x' && y == y') && (z == z' && u == u')) w := at_depth (P := fun k => (Op.equalIn k _ _ _).run _ w = _) (show 10000 = 9997 + 3 from rfl) (eqlSeg_d 9997 x y z u x' y' z' u'  w)
set_option maxRecDepth 100000 in
theorem selfSeg_d (k₀ : Nat) (x : Int) (y : Int) (z : Int) (u : Int) (w : World) : (Op.equalIn (k₀ + 3) 54 (.agg (sgc x y z u)) (.agg (sgc x y z u))).run Tryz.prog w = .ok true w :=
  eqStruct [(30, 0), (30, 2)] [true, true] (by kernel_rfl) (by kernel_rfl) (by kernel_rfl) ⟨⟨.agg (ptc x y), .agg (ptc x y), part_row (by first | exact rowI _ _ | (rw [cells_size]; exact rowW) | exact rowPt _ _) (by kernel_rfl) w, part_row (by first | exact rowI _ _ | (rw [cells_size]; exact rowW) | exact rowPt _ _) (by kernel_rfl) w, (selfPt_d (k₀) x y w).trans (by simp)⟩, ⟨.agg (ptc z u), .agg (ptc z u), part_row (by first | exact rowI _ _ | (rw [cells_size]; exact rowW) | exact rowPt _ _) (by kernel_rfl) w, part_row (by first | exact rowI _ _ | (rw [cells_size]; exact rowW) | exact rowPt _ _) (by kernel_rfl) w, (selfPt_d (k₀) z u w).trans (by simp)⟩, trivial⟩
set_option maxRecDepth 100000 in
@[simp] theorem selfSeg (x : Int) (y : Int) (z : Int) (u : Int) (w : World) : (Op.equalIn 10000 54 (.agg (sgc x y z u)) (.agg (sgc x y z u))).run Tryz.prog w = .ok true w := at_depth (P := fun k => (Op.equalIn k _ _ _).run _ w = _) (show 10000 = 9997 + 3 from rfl) (selfSeg_d 9997 x y z u w)
def a3ptc (x0 : Int) (y0 : Int) (x1 : Int) (y1 : Int) (x2 : Int) (y2 : Int) : Array Value := #[.int .i64 x0, .int .i64 y0, .int .i64 x1, .int .i64 y1, .int .i64 x2, .int .i64 y2]
set_option maxRecDepth 100000 in
set_option maxRecDepth 100000 in
instance partPt3_0 (x0 : Int) (y0 : Int) (x1 : Int) (y1 : Int) (x2 : Int) (y2 : Int) : Part Tryz.prog 30 (a3ptc x0 y0 x1 y1 x2 y2) 0 (ptc x0 y0) := Part.of (rowPt _ _) (by kernel_rfl)
set_option maxRecDepth 100000 in
set_option maxRecDepth 100000 in
instance cellPt3_0_0 (x0 : Int) (y0 : Int) (x1 : Int) (y1 : Int) (x2 : Int) (y2 : Int) : CellV Tryz.prog 3 (a3ptc x0 y0 x1 y1 x2 y2) 0 (.int .i64 x0) := ⟨⟨by kernel_rfl⟩, rfl⟩
set_option maxRecDepth 100000 in
@[simp] theorem a3ptc_0 (x0 : Int) (y0 : Int) (x1 : Int) (y1 : Int) (x2 : Int) (y2 : Int) : (a3ptc x0 y0 x1 y1 x2 y2)[0]? = some (.int .i64 x0) := rfl
set_option maxRecDepth 100000 in
set_option maxRecDepth 100000 in
instance cellPt3_0_1 (x0 : Int) (y0 : Int) (x1 : Int) (y1 : Int) (x2 : Int) (y2 : Int) : CellV Tryz.prog 3 (a3ptc x0 y0 x1 y1 x2 y2) 1 (.int .i64 y0) := ⟨⟨by kernel_rfl⟩, rfl⟩
set_option maxRecDepth 100000 in
@[simp] theorem a3ptc_1 (x0 : Int) (y0 : Int) (x1 : Int) (y1 : Int) (x2 : Int) (y2 : Int) : (a3ptc x0 y0 x1 y1 x2 y2)[1]? = some (.int .i64 y0) := rfl
set_option maxRecDepth 100000 in
set_option maxRecDepth 100000 in
instance partPt3_1 (x0 : Int) (y0 : Int) (x1 : Int) (y1 : Int) (x2 : Int) (y2 : Int) : Part Tryz.prog 30 (a3ptc x0 y0 x1 y1 x2 y2) 2 (ptc x1 y1) := Part.of (rowPt _ _) (by kernel_rfl)
set_option maxRecDepth 100000 in
set_option maxRecDepth 100000 in
instance cellPt3_1_0 (x0 : Int) (y0 : Int) (x1 : Int) (y1 : Int) (x2 : Int) (y2 : Int) : CellV Tryz.prog 3 (a3ptc x0 y0 x1 y1 x2 y2) 2 (.int .i64 x1) := ⟨⟨by kernel_rfl⟩, rfl⟩
set_option maxRecDepth 100000 in
@[simp] theorem a3ptc_2 (x0 : Int) (y0 : Int) (x1 : Int) (y1 : Int) (x2 : Int) (y2 : Int) : (a3ptc x0 y0 x1 y1 x2 y2)[2]? = some (.int .i64 x1) := rfl
set_option maxRecDepth 100000 in
set_option maxRecDepth 100000 in
instance cellPt3_1_1 (x0 : Int) (y0 : Int) (x1 : Int) (y1 : Int) (x2 : Int) (y2 : Int) : CellV Tryz.prog 3 (a3ptc x0 y0 x1 y1 x2 y2) 3 (.int .i64 y1) := ⟨⟨by kernel_rfl⟩, rfl⟩
set_option maxRecDepth 100000 in
@[simp] theorem a3ptc_3 (x0 : Int) (y0 : Int) (x1 : Int) (y1 : Int) (x2 : Int) (y2 : Int) : (a3ptc x0 y0 x1 y1 x2 y2)[3]? = some (.int .i64 y1) := rfl
set_option maxRecDepth 100000 in
set_option maxRecDepth 100000 in
instance partPt3_2 (x0 : Int) (y0 : Int) (x1 : Int) (y1 : Int) (x2 : Int) (y2 : Int) : Part Tryz.prog 30 (a3ptc x0 y0 x1 y1 x2 y2) 4 (ptc x2 y2) := Part.of (rowPt _ _) (by kernel_rfl)
set_option maxRecDepth 100000 in
set_option maxRecDepth 100000 in
instance cellPt3_2_0 (x0 : Int) (y0 : Int) (x1 : Int) (y1 : Int) (x2 : Int) (y2 : Int) : CellV Tryz.prog 3 (a3ptc x0 y0 x1 y1 x2 y2) 4 (.int .i64 x2) := ⟨⟨by kernel_rfl⟩, rfl⟩
set_option maxRecDepth 100000 in
@[simp] theorem a3ptc_4 (x0 : Int) (y0 : Int) (x1 : Int) (y1 : Int) (x2 : Int) (y2 : Int) : (a3ptc x0 y0 x1 y1 x2 y2)[4]? = some (.int .i64 x2) := rfl
set_option maxRecDepth 100000 in
set_option maxRecDepth 100000 in
instance cellPt3_2_1 (x0 : Int) (y0 : Int) (x1 : Int) (y1 : Int) (x2 : Int) (y2 : Int) : CellV Tryz.prog 3 (a3ptc x0 y0 x1 y1 x2 y2) 5 (.int .i64 y2) := ⟨⟨by kernel_rfl⟩, rfl⟩
set_option maxRecDepth 100000 in
@[simp] theorem a3ptc_5 (x0 : Int) (y0 : Int) (x1 : Int) (y1 : Int) (x2 : Int) (y2 : Int) : (a3ptc x0 y0 x1 y1 x2 y2)[5]? = some (.int .i64 y2) := rfl
end Go.Proofs.YtacicfmalhhceaaGreatDoor.PtW

/- package point: contracts over the translation. -/
namespace Go.Proofs.YtacicfmalhhceaaGreatDoor.PtW
open Go.RowKit
open KM PtM
/-- is a number within the grid? -/
def inB (n : Int) : Bool := decide (-536870912 ≤ n) && decide (n ≤ 536870912)
def mayP (x y : Int) : Bool := inB x && inB y
def eqP (x y z u : Int) : Bool := x == z && y == u
def lineP (x y z u : Int) : Bool := mayP x y && mayP z u && !eqP x y z u
theorem inB_iff {n : Int} : inB n = true ↔ -536870912 ≤ n ∧ n ≤ 536870912 := by
  unfold inB; rw [Bool.and_eq_true, decide_eq_true_eq, decide_eq_true_eq]
theorem mayP_iff {x y : Int} : mayP x y = true ↔ (-536870912 ≤ x ∧ x ≤ 536870912) ∧ (-536870912 ≤ y ∧ y ≤ 536870912) := by
  unfold mayP; rw [Bool.and_eq_true, inB_iff, inB_iff]
set_option maxRecDepth 100000 in
set_option maxHeartbeats 3200000 in
theorem within_any (n : Int) (w : World) : Calls Tryz.prog 63 #[.int .i64 n] w (Ret (.bool (inB n)) w) := by
  unfold inB
  obtain ⟨p, e1⟩ : ∃ p, decide (-536870912 ≤ n) = p := ⟨_, rfl⟩
  obtain ⟨q, e2⟩ : ∃ q, decide (n ≤ 536870912) = q := ⟨_, rfl⟩
  rw [e1, e2]
  cases p
  all_goals (
    refine enter fun u => ?_
    go_enter Tryz.func63, Tryz.ntmps63
    go_wp2_with (first
      | ((with_reducible refine ls_skip ?_ ?_); (exact rfl); (try simp only [Act.put, List.setIfInBounds_toArray, List.set_cons_succ, List.set_cons_zero]))
      | ((with_reducible refine ck_box ?_); refine list_box rfl fun _ _ => ?_)
      | ((with_reducible refine ck_load ?_); first | refine ls_load rfl inferInstance inferInstance ?_ | refine ls_cell rfl inferInstance inferInstance ?_))
    go_ret
    exact ⟨rfl, KW.below _⟩)
set_option maxRecDepth 100000 in
set_option maxHeartbeats 3200000 in
theorem may_any (x y : Int) (w : World) : Calls Tryz.prog 33 #[ptv x y] w (Ret (.bool (mayP x y)) w) := by
  have HA := fun w => within_any x w
  have HB := fun w => within_any y w
  unfold mayP
  generalize inB x = p at *
  generalize inB y = q at *
  replace HA := Lib.hid HA
  replace HB := Lib.hid HB
  cases p
  all_goals (
    refine enter fun u => ?_
    go_enter Tryz.func33, Tryz.ntmps33
    go_wp2_with (first
      | ((with_reducible refine ls_skip ?_ ?_); (exact rfl); (try simp only [Act.put, List.setIfInBounds_toArray, List.set_cons_succ, List.set_cons_zero]))
      | ((with_reducible refine ck_box ?_); refine list_box rfl fun _ _ => ?_)
      | ((with_reducible refine ck_load ?_); first | refine ls_load rfl inferInstance inferInstance ?_ | refine ls_cell rfl inferInstance inferInstance ?_)
      | (go_at_call 63; (with_reducible refine (HA.out _).mono ?_); rintro e w' ⟨rfl, hb'⟩; obtain ⟨_, rfl⟩ := KW.go _ hb'; clear hb')
      | (go_at_call 63; (with_reducible refine (HB.out _).mono ?_); rintro e w' ⟨rfl, hb'⟩; obtain ⟨_, rfl⟩ := KW.go _ hb'; clear hb'))
    go_ret
    exact ⟨rfl, KW.below _⟩)
set_option maxRecDepth 100000 in
set_option maxHeartbeats 3200000 in
theorem line_any (x y z u : Int) (w : World) : Calls Tryz.prog 50 #[sgv x y z u] w (Ret (.bool (lineP x y z u)) w) := by
  have HA := fun w => may_any x y w
  have HB := fun w => may_any z u w
  have HE := fun w => eqlPt x y z u w
  unfold lineP
  rw [show eqP x y z u = (x == z && y == u) from rfl]
  generalize (x == z && y == u) = o at *
  generalize mayP x y = p at *
  generalize mayP z u = q at *
  replace HA := Lib.hid HA
  replace HB := Lib.hid HB
  cases p <;> cases q
  all_goals (
    refine enter fun u => ?_
    go_enter Tryz.func50, Tryz.ntmps50
    go_wp2_with (first
      | ((with_reducible refine ls_skip ?_ ?_); (exact rfl); (try simp only [Act.put, List.setIfInBounds_toArray, List.set_cons_succ, List.set_cons_zero]))
      | ((with_reducible refine ck_box ?_); refine list_box rfl fun _ _ => ?_)
      | ((with_reducible refine ck_load ?_); first | refine ls_load rfl inferInstance inferInstance ?_ | refine ls_cell rfl inferInstance inferInstance ?_)
      | ((with_reducible refine ck_gload ?_); first | refine lsg_load rfl rfl inferInstance inferInstance ?_ | refine lsg_cell rfl rfl inferInstance inferInstance ?_)
      | (go_at_call 33; (with_reducible refine (HA.out _).mono ?_); rintro e w' ⟨rfl, hb'⟩; obtain ⟨_, rfl⟩ := KW.go _ hb'; clear hb')
      | (go_at_call 33; (with_reducible refine (HB.out _).mono ?_); rintro e w' ⟨rfl, hb'⟩; obtain ⟨_, rfl⟩ := KW.go _ hb'; clear hb'))
    go_ret
    exact ⟨rfl, KW.below _⟩)
set_option maxRecDepth 100000 in
set_option maxHeartbeats 3200000 in
theorem all_any (x y z u s t : Int) (w : World) : Calls Tryz.prog 125 #[ptv x y, ptv z u, ptv s t] w (Ret (.bool (mayP x y && mayP z u && mayP s t)) w) := by
  have HA := fun w => may_any x y w
  have HB := fun w => may_any z u w
  have HC := fun w => may_any s t w
  generalize mayP x y = p at *
  generalize mayP z u = q at *
  generalize mayP s t = o at *
  replace HA := Lib.hid HA
  replace HB := Lib.hid HB
  replace HC := Lib.hid HC
  cases p <;> cases q
  all_goals (
    refine enter fun u => ?_
    go_enter Tryz.func125, Tryz.ntmps125
    go_wp2_with (first
      | ((with_reducible refine ls_skip ?_ ?_); (exact rfl); (try simp only [Act.put, List.setIfInBounds_toArray, List.set_cons_succ, List.set_cons_zero]))
      | ((with_reducible refine ck_box ?_); refine list_box rfl fun _ _ => ?_)
      | ((with_reducible refine ck_load ?_); first | refine ls_load rfl inferInstance inferInstance ?_ | refine ls_cell rfl inferInstance inferInstance ?_)
      | ((with_reducible refine ck_gload ?_); first | refine lsg_load rfl rfl inferInstance inferInstance ?_ | refine lsg_cell rfl rfl inferInstance inferInstance ?_)
      | (go_at_call 33; (with_reducible refine (HA.out _).mono ?_); rintro e w' ⟨rfl, hb'⟩; obtain ⟨_, rfl⟩ := KW.go _ hb'; clear hb')
      | (go_at_call 33; (with_reducible refine (HB.out _).mono ?_); rintro e w' ⟨rfl, hb'⟩; obtain ⟨_, rfl⟩ := KW.go _ hb'; clear hb')
      | (go_at_call 33; (with_reducible refine (HC.out _).mono ?_); rintro e w' ⟨rfl, hb'⟩; obtain ⟨_, rfl⟩ := KW.go _ hb'; clear hb'))
    go_ret
    exact ⟨rfl, KW.below _⟩)
end Go.Proofs.YtacicfmalhhceaaGreatDoor.PtW

/- package point: areas, how far, order, boxes, turning: contracts over the translation. -/
namespace Go.Proofs.YtacicfmalhhceaaGreatDoor.PtW
open Go.RowKit
open KM PtM
def crossV (x y z u s t : Int) : Int := if (mayP x y && mayP z u && mayP s t) = true then crs x y z u s t else 0
def dotV (x y z u s t : Int) : Int := if (mayP x y && mayP z u && mayP s t) = true then dts x y z u s t else 0
def lessP (x y z u : Int) : Bool := mayP x y && mayP z u && (decide (x < z) || (x == z && decide (y < u)))
theorem and3 {p q r : Bool} (h : (p && q && r) = true) : p = true ∧ q = true ∧ r = true := by
  cases p <;> cases q <;> cases r <;> first | exact ⟨rfl, rfl, rfl⟩ | cases h
set_option maxRecDepth 100000 in
set_option maxHeartbeats 3200000 in
theorem step_any (x y z u : Int) (h1 : mayP x y = true) (h2 : mayP z u = true) (w : World) : Calls Tryz.prog 126 #[ptv x y, ptv z u] w (Ret (ptv (z - x) (u - y)) w) := by
  have a1 := mayP_iff.1 h1
  have a2 := mayP_iff.1 h2
  have w1 : IntKind.i64.wrap (z - x) = z - x := by rw [IntKind.wrap_i64]; omega
  have w2 : IntKind.i64.wrap (u - y) = u - y := by rw [IntKind.wrap_i64]; omega
  clear a1 a2 h1 h2
  refine enter fun u => ?_
  go_enter Tryz.func126, Tryz.ntmps126
  go_wp2_with (first
    | ((with_reducible refine ls_skip ?_ ?_); (exact rfl); (try simp only [Act.put, List.setIfInBounds_toArray, List.set_cons_succ, List.set_cons_zero]))
    | ((with_reducible refine ck_box ?_); refine list_box rfl fun _ _ => ?_)
    | ((with_reducible refine ck_alloc ?_); refine ls_alloc inferInstance fun _ _ => ?_)
    | ((with_reducible refine ck_load ?_); first | refine ls_load rfl inferInstance inferInstance ?_ | refine ls_cell rfl inferInstance inferInstance ?_)
    | ((with_reducible refine ck_store ?_); refine ls_store rfl rfl inferInstance inferInstance inferInstance fun _ => ?_)
    | ((with_reducible refine ck_build (t := 30) (xs := #[(0, _), (1, _)]) ?_); refine ls_Pt rfl rfl ?_))
  exact bd_cell Tryz.results126 rfl inferInstance inferInstance ⟨rfl, KW.below _⟩
set_option maxRecDepth 100000 in
set_option maxHeartbeats 3200000 in
theorem cross_any (x y z u s t : Int) (w : World) : Calls Tryz.prog 88 #[ptv x y, ptv z u, ptv s t] w (Ret (.int .i64 (crossV x y z u s t)) w) := by
  have HA := fun w => all_any x y z u s t w
  unfold crossV
  cases h : (mayP x y && mayP z u && mayP s t) with
  | false =>
    rw [h] at HA
    replace HA := Lib.hid HA
    rw [if_neg (by decide)]
    refine enter fun u => ?_
    go_enter Tryz.func88, Tryz.ntmps88
    go_wp2_with (first
      | ((with_reducible refine ls_skip ?_ ?_); (exact rfl); (try simp only [Act.put, List.setIfInBounds_toArray, List.set_cons_succ, List.set_cons_zero]))
      | ((with_reducible refine ck_box ?_); refine list_box rfl fun _ _ => ?_)
      | ((with_reducible refine ck_load ?_); first | refine ls_load rfl inferInstance inferInstance ?_ | refine ls_cell rfl inferInstance inferInstance ?_)
      | (go_at_call 125; (with_reducible refine (HA.out _).mono ?_); rintro e w' ⟨rfl, hb'⟩; obtain ⟨_, rfl⟩ := KW.go _ hb'; clear hb'))
    go_ret
    exact ⟨rfl, KW.below _⟩
  | true =>
    rw [h] at HA
    replace HA := Lib.hid HA
    rw [if_pos rfl]
    obtain ⟨h1, h2, h3⟩ := and3 h
    have HU := fun w => step_any x y z u h1 h2 w
    have HV := fun w => step_any x y s t h1 h3 w
    have a1 := mayP_iff.1 h1
    have a2 := mayP_iff.1 h2
    have a3 := mayP_iff.1 h3
    have c1 := @mul_bd (z - x) (t - y) (by omega) (by omega) (by omega) (by omega)
    have c2 := @mul_bd (u - y) (s - x) (by omega) (by omega) (by omega) (by omega)
    unfold crs
    generalize z - x = p at *
    generalize u - y = q at *
    generalize s - x = r at *
    generalize t - y = o at *
    have w1 : IntKind.i64.wrap (p * o) = p * o := by rw [IntKind.wrap_i64]; omega
    have w2 : IntKind.i64.wrap (q * r) = q * r := by rw [IntKind.wrap_i64]; omega
    have w3 : IntKind.i64.wrap (p * o - q * r) = p * o - q * r := by rw [IntKind.wrap_i64]; omega
    clear a1 a2 a3 h1 h2 h3 h c1 c2
    replace HU := Lib.hid HU
    replace HV := Lib.hid HV
    refine enter fun u => ?_
    go_enter Tryz.func88, Tryz.ntmps88
    go_wp2_with (first
      | ((with_reducible refine ls_skip ?_ ?_); (exact rfl); (try simp only [Act.put, List.setIfInBounds_toArray, List.set_cons_succ, List.set_cons_zero]))
      | ((with_reducible refine ck_box ?_); refine list_box rfl fun _ _ => ?_)
      | ((with_reducible refine ck_load ?_); first | refine ls_load rfl inferInstance inferInstance ?_ | refine ls_cell rfl inferInstance inferInstance ?_)
      | (go_at_call 125; (with_reducible refine (HA.out _).mono ?_); rintro e w' ⟨rfl, hb'⟩; obtain ⟨_, rfl⟩ := KW.go _ hb'; clear hb'))
    refine region_mixS [.take 0, .take 1, .take 2, .take 3, .take 4, .take 5, .two 6 7, .sole 8, .sole 9] _ (Sub.both (h := Sub.both (h := Sub.both (h := Sub.nil)))) (by kernel_rfl) (by kernel_rfl) ?_
    simp only [picksM, Mv.pick, List.filterMap_cons, List.filterMap_nil, List.getElem?_cons_zero, List.getElem?_cons_succ, Option.map_some]
    refine MM.out ?_
    repeat (first
      | ((with_reducible apply mm_load); exact rfl; infer_instance; infer_instance; (try simp only [Act.put, List.setIfInBounds_toArray, List.set_cons_succ, List.set_cons_zero]))
      | ((with_reducible apply mm_cell); exact rfl; infer_instance; infer_instance; (try simp only [Act.put, List.setIfInBounds_toArray, List.set_cons_succ, List.set_cons_zero]))
      | ((with_reducible apply mm_callf (f := 126)); (intro _; go_simp; try exact rfl); (with_reducible exact fun _ u => HU.out _); (try simp only [Act.put, List.setIfInBounds_toArray, List.set_cons_succ, List.set_cons_zero]))
      | ((with_reducible apply mo_callf (f := 126)); infer_instance; (intro _; go_simp; try exact rfl); (with_reducible exact fun u => HU.out _); (try simp only [Act.put, List.setIfInBounds_toArray, List.set_cons_succ, List.set_cons_zero]))
      | ((with_reducible apply mm_callf (f := 126)); (intro _; go_simp; try exact rfl); (with_reducible exact fun _ u => HV.out _); (try simp only [Act.put, List.setIfInBounds_toArray, List.set_cons_succ, List.set_cons_zero]))
      | ((with_reducible apply mo_callf (f := 126)); infer_instance; (intro _; go_simp; try exact rfl); (with_reducible exact fun u => HV.out _); (try simp only [Act.put, List.setIfInBounds_toArray, List.set_cons_succ, List.set_cons_zero]))
      | ((with_reducible apply mm_value); (intro _; go_simp; try exact rfl); (try simp only [Act.put, List.setIfInBounds_toArray, List.set_cons_succ, List.set_cons_zero]))
      | ((with_reducible apply mo_store); exact rfl; exact rfl; infer_instance; infer_instance; infer_instance; infer_instance; (try simp only [Act.put, List.setIfInBounds_toArray, List.set_cons_succ, List.set_cons_zero]))
      | ((with_reducible apply mo_put); exact rfl; exact rfl; infer_instance; infer_instance; infer_instance; infer_instance; (try simp only [Act.put, List.setIfInBounds_toArray, List.set_cons_succ, List.set_cons_zero]))
      | ((with_reducible apply mo_alloc); infer_instance; infer_instance; intro _; (try simp only [Act.put, List.setIfInBounds_toArray, List.set_cons_succ, List.set_cons_zero]))
      | ((with_reducible apply mo_three); (decide); (decide); infer_instance; infer_instance; infer_instance; intro _ _ _; (try simp only [Act.put, List.setIfInBounds_toArray, List.set_cons_succ, List.set_cons_zero]))
      | ((with_reducible apply mo_four); (decide); (decide); infer_instance; infer_instance; infer_instance; infer_instance; intro _ _ _ _; (try simp only [Act.put, List.setIfInBounds_toArray, List.set_cons_succ, List.set_cons_zero]))
      | ((with_reducible apply mo_two); infer_instance; infer_instance; (decide); intro _ _; (try simp only [Act.put, List.setIfInBounds_toArray, List.set_cons_succ, List.set_cons_zero]))
      | ((with_reducible apply mo_load); infer_instance; exact rfl; infer_instance; infer_instance; (try simp only [Act.put, List.setIfInBounds_toArray, List.set_cons_succ, List.set_cons_zero]))
      | ((with_reducible apply mo_cell); infer_instance; exact rfl; infer_instance; infer_instance; (try simp only [Act.put, List.setIfInBounds_toArray, List.set_cons_succ, List.set_cons_zero]))
      | ((with_reducible apply mo_value); infer_instance; (intro _; go_simp; try exact rfl); (try simp only [Act.put, List.setIfInBounds_toArray, List.set_cons_succ, List.set_cons_zero])))
    refine mm_nil fun u7 => ?_
    go_wp2_with (first
      | ((with_reducible refine ls_skip ?_ ?_); (exact rfl); (try simp only [Act.put, List.setIfInBounds_toArray, List.set_cons_succ, List.set_cons_zero]))
      | ((with_reducible refine ck_load ?_); first | refine ls_load rfl inferInstance inferInstance ?_ | refine ls_cell rfl inferInstance inferInstance ?_))
    go_ret
    exact ⟨rfl, KW.below _⟩
set_option maxRecDepth 100000 in
set_option maxHeartbeats 3200000 in
theorem dot_any (x y z u s t : Int) (w : World) : Calls Tryz.prog 152 #[ptv x y, ptv z u, ptv s t] w (Ret (.int .i64 (dotV x y z u s t)) w) := by
  have HA := fun w => all_any x y z u s t w
  unfold dotV
  cases h : (mayP x y && mayP z u && mayP s t) with
  | false =>
    rw [h] at HA
    replace HA := Lib.hid HA
    rw [if_neg (by decide)]
    refine enter fun u => ?_
    go_enter Tryz.func152, Tryz.ntmps152
    go_wp2_with (first
      | ((with_reducible refine ls_skip ?_ ?_); (exact rfl); (try simp only [Act.put, List.setIfInBounds_toArray, List.set_cons_succ, List.set_cons_zero]))
      | ((with_reducible refine ck_box ?_); refine list_box rfl fun _ _ => ?_)
      | ((with_reducible refine ck_load ?_); first | refine ls_load rfl inferInstance inferInstance ?_ | refine ls_cell rfl inferInstance inferInstance ?_)
      | (go_at_call 125; (with_reducible refine (HA.out _).mono ?_); rintro e w' ⟨rfl, hb'⟩; obtain ⟨_, rfl⟩ := KW.go _ hb'; clear hb'))
    go_ret
    exact ⟨rfl, KW.below _⟩
  | true =>
    rw [h] at HA
    replace HA := Lib.hid HA
    rw [if_pos rfl]
    obtain ⟨h1, h2, h3⟩ := and3 h
    have HU := fun w => step_any x y z u h1 h2 w
    have HV := fun w => step_any x y s t h1 h3 w
    have a1 := mayP_iff.1 h1
    have a2 := mayP_iff.1 h2
    have a3 := mayP_iff.1 h3
    have c1 := @mul_bd (z - x) (s - x) (by omega) (by omega) (by omega) (by omega)
    have c2 := @mul_bd (u - y) (t - y) (by omega) (by omega) (by omega) (by omega)
    unfold dts
    generalize z - x = p at *
    generalize u - y = q at *
    generalize s - x = r at *
    generalize t - y = o at *
    have w1 : IntKind.i64.wrap (p * r) = p * r := by rw [IntKind.wrap_i64]; omega
    have w2 : IntKind.i64.wrap (q * o) = q * o := by rw [IntKind.wrap_i64]; omega
    have w3 : IntKind.i64.wrap (p * r + q * o) = p * r + q * o := by rw [IntKind.wrap_i64]; omega
    clear a1 a2 a3 h1 h2 h3 h c1 c2
    replace HU := Lib.hid HU
    replace HV := Lib.hid HV
    refine enter fun u => ?_
    go_enter Tryz.func152, Tryz.ntmps152
    go_wp2_with (first
      | ((with_reducible refine ls_skip ?_ ?_); (exact rfl); (try simp only [Act.put, List.setIfInBounds_toArray, List.set_cons_succ, List.set_cons_zero]))
      | ((with_reducible refine ck_box ?_); refine list_box rfl fun _ _ => ?_)
      | ((with_reducible refine ck_load ?_); first | refine ls_load rfl inferInstance inferInstance ?_ | refine ls_cell rfl inferInstance inferInstance ?_)
      | (go_at_call 125; (with_reducible refine (HA.out _).mono ?_); rintro e w' ⟨rfl, hb'⟩; obtain ⟨_, rfl⟩ := KW.go _ hb'; clear hb'))
    refine region_mixS [.take 0, .take 1, .take 2, .take 3, .take 4, .take 5, .two 6 7, .sole 8, .sole 9] _ (Sub.both (h := Sub.both (h := Sub.both (h := Sub.nil)))) (by kernel_rfl) (by kernel_rfl) ?_
    simp only [picksM, Mv.pick, List.filterMap_cons, List.filterMap_nil, List.getElem?_cons_zero, List.getElem?_cons_succ, Option.map_some]
    refine MM.out ?_
    repeat (first
      | ((with_reducible apply mm_load); exact rfl; infer_instance; infer_instance; (try simp only [Act.put, List.setIfInBounds_toArray, List.set_cons_succ, List.set_cons_zero]))
      | ((with_reducible apply mm_cell); exact rfl; infer_instance; infer_instance; (try simp only [Act.put, List.setIfInBounds_toArray, List.set_cons_succ, List.set_cons_zero]))
      | ((with_reducible apply mm_callf (f := 126)); (intro _; go_simp; try exact rfl); (with_reducible exact fun _ u => HU.out _); (try simp only [Act.put, List.setIfInBounds_toArray, List.set_cons_succ, List.set_cons_zero]))
      | ((with_reducible apply mo_callf (f := 126)); infer_instance; (intro _; go_simp; try exact rfl); (with_reducible exact fun u => HU.out _); (try simp only [Act.put, List.setIfInBounds_toArray, List.set_cons_succ, List.set_cons_zero]))
      | ((with_reducible apply mm_callf (f := 126)); (intro _; go_simp; try exact rfl); (with_reducible exact fun _ u => HV.out _); (try simp only [Act.put, List.setIfInBounds_toArray, List.set_cons_succ, List.set_cons_zero]))
      | ((with_reducible apply mo_callf (f := 126)); infer_instance; (intro _; go_simp; try exact rfl); (with_reducible exact fun u => HV.out _); (try simp only [Act.put, List.setIfInBounds_toArray, List.set_cons_succ, List.set_cons_zero]))
      | ((with_reducible apply mm_value); (intro _; go_simp; try exact rfl); (try simp only [Act.put, List.setIfInBounds_toArray, List.set_cons_succ, List.set_cons_zero]))
      | ((with_reducible apply mo_store); exact rfl; exact rfl; infer_instance; infer_instance; infer_instance; infer_instance; (try simp only [Act.put, List.setIfInBounds_toArray, List.set_cons_succ, List.set_cons_zero]))
      | ((with_reducible apply mo_put); exact rfl; exact rfl; infer_instance; infer_instance; infer_instance; infer_instance; (try simp only [Act.put, List.setIfInBounds_toArray, List.set_cons_succ, List.set_cons_zero]))
      | ((with_reducible apply mo_alloc); infer_instance; infer_instance; intro _; (try simp only [Act.put, List.setIfInBounds_toArray, List.set_cons_succ, List.set_cons_zero]))
      | ((with_reducible apply mo_three); (decide); (decide); infer_instance; infer_instance; infer_instance; intro _ _ _; (try simp only [Act.put, List.setIfInBounds_toArray, List.set_cons_succ, List.set_cons_zero]))
      | ((with_reducible apply mo_four); (decide); (decide); infer_instance; infer_instance; infer_instance; infer_instance; intro _ _ _ _; (try simp only [Act.put, List.setIfInBounds_toArray, List.set_cons_succ, List.set_cons_zero]))
      | ((with_reducible apply mo_two); infer_instance; infer_instance; (decide); intro _ _; (try simp only [Act.put, List.setIfInBounds_toArray, List.set_cons_succ, List.set_cons_zero]))
      | ((with_reducible apply mo_load); infer_instance; exact rfl; infer_instance; infer_instance; (try simp only [Act.put, List.setIfInBounds_toArray, List.set_cons_succ, List.set_cons_zero]))
      | ((with_reducible apply mo_cell); infer_instance; exact rfl; infer_instance; infer_instance; (try simp only [Act.put, List.setIfInBounds_toArray, List.set_cons_succ, List.set_cons_zero]))
      | ((with_reducible apply mo_value); infer_instance; (intro _; go_simp; try exact rfl); (try simp only [Act.put, List.setIfInBounds_toArray, List.set_cons_succ, List.set_cons_zero])))
    refine mm_nil fun u7 => ?_
    go_wp2_with (first
      | ((with_reducible refine ls_skip ?_ ?_); (exact rfl); (try simp only [Act.put, List.setIfInBounds_toArray, List.set_cons_succ, List.set_cons_zero]))
      | ((with_reducible refine ck_load ?_); first | refine ls_load rfl inferInstance inferInstance ?_ | refine ls_cell rfl inferInstance inferInstance ?_))
    go_ret
    exact ⟨rfl, KW.below _⟩
set_option maxRecDepth 100000 in
set_option maxHeartbeats 3200000 in
theorem far_any (x y z u : Int) (w : World) : Calls Tryz.prog 153 #[ptv x y, ptv z u] w (Ret (.int .i64 (dotV x y z u z u)) w) := by
  have HD := Lib.hid (fun w => dot_any x y z u z u w)
  generalize dotV x y z u z u = e at *
  refine enter fun u => ?_
  go_enter Tryz.func153, Tryz.ntmps153
  go_wp2_with (first
    | ((with_reducible refine ls_skip ?_ ?_); (exact rfl); (try simp only [Act.put, List.setIfInBounds_toArray, List.set_cons_succ, List.set_cons_zero]))
    | ((with_reducible refine ck_box ?_); refine list_box rfl fun _ _ => ?_)
    | ((with_reducible refine ck_load ?_); first | refine ls_load rfl inferInstance inferInstance ?_ | refine ls_cell rfl inferInstance inferInstance ?_)
    | (go_at_call 152; (with_reducible refine (HD.out _).mono ?_); rintro e w' ⟨rfl, hb'⟩; obtain ⟨_, rfl⟩ := KW.go _ hb'; clear hb'))
  go_ret
  exact ⟨rfl, KW.below _⟩
end Go.Proofs.YtacicfmalhhceaaGreatDoor.PtW

/- package point: boxes and turning: contracts over the translation. -/
namespace Go.Proofs.YtacicfmalhhceaaGreatDoor.PtW
open Go.RowKit
open KM PtM
set_option maxRecDepth 100000 in
set_option maxHeartbeats 3200000 in
theorem box_no (x y z u : Int) (h : lineP x y z u = false) (w : World) : Calls Tryz.prog 121 #[sgv x y z u] w (Ret (.tuple #[ptv 0 0, ptv 0 0]) w) := by
  have HL := fun w => line_any x y z u w
  rw [h] at HL
  replace HL := Lib.hid HL
  clear h
  refine enter fun u => ?_
  go_enter Tryz.func121, Tryz.ntmps121
  go_wp2_with (first
    | ((with_reducible refine ls_skip ?_ ?_); (exact rfl); (try simp only [Act.put, List.setIfInBounds_toArray, List.set_cons_succ, List.set_cons_zero]))
    | ((with_reducible refine ck_box ?_); refine list_box rfl fun _ _ => ?_)
    | ((with_reducible refine ck_alloc ?_); refine ls_alloc inferInstance fun _ _ => ?_)
    | ((with_reducible refine ck_load ?_); first | refine ls_load rfl inferInstance inferInstance ?_ | refine ls_cell rfl inferInstance inferInstance ?_)
    | ((with_reducible refine ck_store ?_); refine ls_store rfl rfl inferInstance inferInstance inferInstance fun _ => ?_)
    | ((with_reducible refine ck_build (t := 30) (xs := #[]) ?_); refine ls_Pt_ ?_)
    | (go_at_call 50; (with_reducible refine (HL.out _).mono ?_); rintro e w' ⟨rfl, hb'⟩; obtain ⟨_, rfl⟩ := KW.go _ hb'; clear hb'))
  exact bd_cell2 Tryz.results121 rfl rfl inferInstance inferInstance inferInstance inferInstance ⟨rfl, KW.below _⟩
set_option maxRecDepth 100000 in
set_option maxHeartbeats 3200000 in
theorem box_yes (x y z u : Int) (h : lineP x y z u = true) (w : World) : Calls Tryz.prog 121 #[sgv x y z u] w (Ret (.tuple #[ptv (min x z) (min y u), ptv (max x z) (max y u)]) w) := by
  have HL := fun w => line_any x y z u w
  rw [h] at HL
  replace HL := Lib.hid HL
  have n1 := min_go x z
  have n2 := min_go y u
  have n3 := max_go x z
  have n4 := max_go y u
  generalize min x z = a1 at *
  generalize min y u = a2 at *
  generalize max x z = a3 at *
  generalize max y u = a4 at *
  clear h
  refine enter fun u => ?_
  go_enter Tryz.func121, Tryz.ntmps121
  go_wp2_with (first
    | ((with_reducible refine ls_skip ?_ ?_); (exact rfl); (try simp only [Act.put, List.setIfInBounds_toArray, List.set_cons_succ, List.set_cons_zero]))
    | ((with_reducible refine ck_box ?_); refine list_box rfl fun _ _ => ?_)
    | ((with_reducible refine ck_alloc ?_); refine ls_alloc inferInstance fun _ _ => ?_)
    | ((with_reducible refine ck_load ?_); first | refine ls_load rfl inferInstance inferInstance ?_ | refine ls_cell rfl inferInstance inferInstance ?_)
    | ((with_reducible refine ck_store ?_); refine ls_store rfl rfl inferInstance inferInstance inferInstance fun _ => ?_)
    | ((with_reducible refine ck_build (t := 30) (xs := #[(0, _), (1, _)]) ?_); refine ls_Pt rfl rfl ?_)
    | (go_at_call 50; (with_reducible refine (HL.out _).mono ?_); rintro e w' ⟨rfl, hb'⟩; obtain ⟨_, rfl⟩ := KW.go _ hb'; clear hb'))
  refine region_fork (by kernel_rfl) ?_
  repeat' (first
    | refine aa_nil (by decide +kernel) fun u7 => ?_
    | (refine aa_one 2 (by decide +kernel) rfl ?_ <;> simp only [List.getElem_toArray, List.getElem_cons_zero, List.getElem_cons_succ])
    | (refine aa_one 1 (by decide +kernel) rfl ?_ <;> simp only [List.getElem_toArray, List.getElem_cons_zero, List.getElem_cons_succ])
    | (refine aa_one 0 (by decide +kernel) rfl ?_ <;> simp only [List.getElem_toArray, List.getElem_cons_zero])
    | (refine aa_one 3 (by decide +kernel) rfl ?_ <;> simp only [List.getElem_toArray, List.getElem_cons_zero, List.getElem_cons_succ])
    | (refine aa_two 0 1 (by decide +kernel) rfl rfl ?_ ?_ <;> simp only [List.getElem_toArray, List.getElem_cons_zero, List.getElem_cons_succ])
    | (refine aa_two 1 2 (by decide +kernel) rfl rfl ?_ ?_ <;> simp only [List.getElem_toArray, List.getElem_cons_zero, List.getElem_cons_succ])
    | ((with_reducible apply se_load); exact rfl; infer_instance; infer_instance; (unfold Nxt; try simp only [Act.put, List.setIfInBounds_toArray, List.set_cons_succ, List.set_cons_zero]))
    | ((with_reducible apply se_cell); exact rfl; infer_instance; infer_instance; (unfold Nxt; try simp only [Act.put, List.setIfInBounds_toArray, List.set_cons_succ, List.set_cons_zero]))
    | ((with_reducible apply se_store); exact rfl; exact rfl; infer_instance; infer_instance; infer_instance; (unfold Nxt; try simp only [Act.put]))
    | ((with_reducible apply se_put); exact rfl; exact rfl; infer_instance; infer_instance; infer_instance; (unfold Nxt; try simp only [Act.put]))
    | ((with_reducible apply se_value); (intro _; go_simp; try exact rfl); (unfold Nxt; try simp only [Act.put, List.setIfInBounds_toArray, List.set_cons_succ, List.set_cons_zero])))
  all_goals (
    go_wp2_with (fail)
    exact bd_cell2 Tryz.results121 rfl rfl inferInstance inferInstance inferInstance inferInstance ⟨rfl, KW.below _⟩)
def apartB (x y z u s t p q : Int) : Bool := decide (max x z < min s p) || decide (max s p < min x z) || decide (max y u < min t q) || decide (max t q < min y u)
def apartP (x y z u s t p q : Int) : Bool := lineP x y z u && lineP s t p q && apartB x y z u s t p q
set_option maxRecDepth 100000 in
set_option maxHeartbeats 3200000 in
theorem apart_any (x y z u s t p q : Int) (w : World) : Calls Tryz.prog 82 #[sgv x y z u, sgv s t p q] w (Ret (.bool (apartP x y z u s t p q)) w) := by
  have HA := fun w => line_any x y z u w
  have HB := fun w => line_any s t p q w
  unfold apartP
  cases h1 : lineP x y z u with
  | false =>
    rw [h1] at HA
    generalize lineP s t p q = o at *
    replace HA := Lib.hid HA
    refine enter fun u => ?_
    go_enter Tryz.func82, Tryz.ntmps82
    go_wp2_with (first
      | ((with_reducible refine ls_skip ?_ ?_); (exact rfl); (try simp only [Act.put, List.setIfInBounds_toArray, List.set_cons_succ, List.set_cons_zero]))
      | ((with_reducible refine ck_box ?_); refine list_box rfl fun _ _ => ?_)
      | ((with_reducible refine ck_load ?_); first | refine ls_load rfl inferInstance inferInstance ?_ | refine ls_cell rfl inferInstance inferInstance ?_)
      | ((with_reducible refine ck_gload ?_); first | refine lsg_load rfl rfl inferInstance inferInstance ?_ | refine lsg_cell rfl rfl inferInstance inferInstance ?_)
      | (go_at_call 50; (with_reducible refine (HA.out _).mono ?_); rintro e w' ⟨rfl, hb'⟩; obtain ⟨_, rfl⟩ := KW.go _ hb'; clear hb'))
    go_ret
    exact ⟨rfl, KW.below _⟩
  | true =>
    cases h2 : lineP s t p q with
    | false =>
      rw [h1] at HA
      rw [h2] at HB
      replace HA := Lib.hid HA
      replace HB := Lib.hid HB
      refine enter fun u => ?_
      go_enter Tryz.func82, Tryz.ntmps82
      go_wp2_with (first
        | ((with_reducible refine ls_skip ?_ ?_); (exact rfl); (try simp only [Act.put, List.setIfInBounds_toArray, List.set_cons_succ, List.set_cons_zero]))
        | ((with_reducible refine ck_box ?_); refine list_box rfl fun _ _ => ?_)
        | ((with_reducible refine ck_load ?_); first | refine ls_load rfl inferInstance inferInstance ?_ | refine ls_cell rfl inferInstance inferInstance ?_)
        | ((with_reducible refine ck_gload ?_); first | refine lsg_load rfl rfl inferInstance inferInstance ?_ | refine lsg_cell rfl rfl inferInstance inferInstance ?_)
        | (go_at_call 50; (with_reducible refine (HA.out _).mono ?_); rintro e w' ⟨rfl, hb'⟩; obtain ⟨_, rfl⟩ := KW.go _ hb'; clear hb')
        | (go_at_call 50; (with_reducible refine (HB.out _).mono ?_); rintro e w' ⟨rfl, hb'⟩; obtain ⟨_, rfl⟩ := KW.go _ hb'; clear hb'))
      go_ret
      exact ⟨rfl, KW.below _⟩
    | true =>
      have HC := Lib.hid (fun w => box_yes x y z u h1 w)
      have HD := Lib.hid (fun w => box_yes s t p q h2 w)
      rw [h1] at HA
      rw [h2] at HB
      replace HA := Lib.hid HA
      replace HB := Lib.hid HB
      unfold apartB
      generalize min x z = a1 at *
      generalize min y u = a2 at *
      generalize max x z = a3 at *
      generalize max y u = a4 at *
      generalize min s p = b1 at *
      generalize min t q = b2 at *
      generalize max s p = b3 at *
      generalize max t q = b4 at *
      obtain ⟨c1, e1⟩ : ∃ c, decide (a3 < b1) = c := ⟨_, rfl⟩
      obtain ⟨c2, e2⟩ : ∃ c, decide (b3 < a1) = c := ⟨_, rfl⟩
      obtain ⟨c3, e3⟩ : ∃ c, decide (a4 < b2) = c := ⟨_, rfl⟩
      obtain ⟨c4, e4⟩ : ∃ c, decide (b4 < a2) = c := ⟨_, rfl⟩
      rw [e1, e2, e3, e4]
      clear h1 h2
      cases c1
      · cases c2
        · cases c3
          all_goals (
            refine enter fun u => ?_
            go_enter Tryz.func82, Tryz.ntmps82
            go_wp2_with (first
              | ((with_reducible refine ls_skip ?_ ?_); (exact rfl); (try simp only [Act.put, List.setIfInBounds_toArray, List.set_cons_succ, List.set_cons_zero]))
              | ((with_reducible refine ck_box ?_); refine list_box rfl fun _ _ => ?_)
              | ((with_reducible refine ck_alloc ?_); refine ls_alloc inferInstance fun _ _ => ?_)
              | ((with_reducible refine ck_load ?_); first | refine ls_load rfl inferInstance inferInstance ?_ | refine ls_cell rfl inferInstance inferInstance ?_)
              | ((with_reducible refine ck_gload ?_); first | refine lsg_load rfl rfl inferInstance inferInstance ?_ | refine lsg_cell rfl rfl inferInstance inferInstance ?_)
              | ((with_reducible refine ck_store ?_); refine ls_store rfl rfl inferInstance inferInstance inferInstance fun _ => ?_)
              | (go_at_call 50; (with_reducible refine (HA.out _).mono ?_); rintro e w' ⟨rfl, hb'⟩; obtain ⟨_, rfl⟩ := KW.go _ hb'; clear hb')
              | (go_at_call 50; (with_reducible refine (HB.out _).mono ?_); rintro e w' ⟨rfl, hb'⟩; obtain ⟨_, rfl⟩ := KW.go _ hb'; clear hb')
              | (go_at_call 121; (with_reducible refine (HC.out _).mono ?_); rintro e w' ⟨rfl, hb'⟩; obtain ⟨_, rfl⟩ := KW.go _ hb'; clear hb')
              | (go_at_call 121; (with_reducible refine (HD.out _).mono ?_); rintro e w' ⟨rfl, hb'⟩; obtain ⟨_, rfl⟩ := KW.go _ hb'; clear hb'))
            go_ret
            exact ⟨rfl, KW.below _⟩)
        · refine enter fun u => ?_
          go_enter Tryz.func82, Tryz.ntmps82
          go_wp2_with (first
            | ((with_reducible refine ls_skip ?_ ?_); (exact rfl); (try simp only [Act.put, List.setIfInBounds_toArray, List.set_cons_succ, List.set_cons_zero]))
            | ((with_reducible refine ck_box ?_); refine list_box rfl fun _ _ => ?_)
            | ((with_reducible refine ck_alloc ?_); refine ls_alloc inferInstance fun _ _ => ?_)
            | ((with_reducible refine ck_load ?_); first | refine ls_load rfl inferInstance inferInstance ?_ | refine ls_cell rfl inferInstance inferInstance ?_)
            | ((with_reducible refine ck_gload ?_); first | refine lsg_load rfl rfl inferInstance inferInstance ?_ | refine lsg_cell rfl rfl inferInstance inferInstance ?_)
            | ((with_reducible refine ck_store ?_); refine ls_store rfl rfl inferInstance inferInstance inferInstance fun _ => ?_)
            | (go_at_call 50; (with_reducible refine (HA.out _).mono ?_); rintro e w' ⟨rfl, hb'⟩; obtain ⟨_, rfl⟩ := KW.go _ hb'; clear hb')
            | (go_at_call 50; (with_reducible refine (HB.out _).mono ?_); rintro e w' ⟨rfl, hb'⟩; obtain ⟨_, rfl⟩ := KW.go _ hb'; clear hb')
            | (go_at_call 121; (with_reducible refine (HC.out _).mono ?_); rintro e w' ⟨rfl, hb'⟩; obtain ⟨_, rfl⟩ := KW.go _ hb'; clear hb')
            | (go_at_call 121; (with_reducible refine (HD.out _).mono ?_); rintro e w' ⟨rfl, hb'⟩; obtain ⟨_, rfl⟩ := KW.go _ hb'; clear hb'))
          go_ret
          exact ⟨rfl, KW.below _⟩
      · refine enter fun u => ?_
        go_enter Tryz.func82, Tryz.ntmps82
        go_wp2_with (first
          | ((with_reducible refine ls_skip ?_ ?_); (exact rfl); (try simp only [Act.put, List.setIfInBounds_toArray, List.set_cons_succ, List.set_cons_zero]))
          | ((with_reducible refine ck_box ?_); refine list_box rfl fun _ _ => ?_)
          | ((with_reducible refine ck_alloc ?_); refine ls_alloc inferInstance fun _ _ => ?_)
          | ((with_reducible refine ck_load ?_); first | refine ls_load rfl inferInstance inferInstance ?_ | refine ls_cell rfl inferInstance inferInstance ?_)
          | ((with_reducible refine ck_gload ?_); first | refine lsg_load rfl rfl inferInstance inferInstance ?_ | refine lsg_cell rfl rfl inferInstance inferInstance ?_)
          | ((with_reducible refine ck_store ?_); refine ls_store rfl rfl inferInstance inferInstance inferInstance fun _ => ?_)
          | (go_at_call 50; (with_reducible refine (HA.out _).mono ?_); rintro e w' ⟨rfl, hb'⟩; obtain ⟨_, rfl⟩ := KW.go _ hb'; clear hb')
          | (go_at_call 50; (with_reducible refine (HB.out _).mono ?_); rintro e w' ⟨rfl, hb'⟩; obtain ⟨_, rfl⟩ := KW.go _ hb'; clear hb')
          | (go_at_call 121; (with_reducible refine (HC.out _).mono ?_); rintro e w' ⟨rfl, hb'⟩; obtain ⟨_, rfl⟩ := KW.go _ hb'; clear hb')
          | (go_at_call 121; (with_reducible refine (HD.out _).mono ?_); rintro e w' ⟨rfl, hb'⟩; obtain ⟨_, rfl⟩ := KW.go _ hb'; clear hb'))
        go_ret
        exact ⟨rfl, KW.below _⟩
def TnRel (k : Nat) (x y : Int) (w : World) (g2 g4 : Nat) (i : Value) (wr : World) : Prop :=
  ∃ (m : Nat) (u : KW w [⟨g4, ptc 0 0, 30⟩, ⟨g2, ptc (tx m x y) (ty m x y), 30⟩]), i = .int .i64 m ∧ wr = u.w ∧ Hid (m ≤ k)
end Go.Proofs.YtacicfmalhhceaaGreatDoor.PtW

/- The document's layer 7: contracts over the translation. -/
namespace Go.Proofs.YtacicfmalhhceaaGreatDoor.PtW
open Go.RowKit
open KM PtM
set_option maxRecDepth 100000 in
set_option maxHeartbeats 3200000 in
theorem rmay_any (x y : Int) (w : World) : Calls Tryz.prog 10 #[ptv x y] w (Ret (.bool (mayP x y)) w) := by
  unfold mayP inB
  obtain ⟨p, e1⟩ : ∃ p, decide (-536870912 ≤ x) = p := ⟨_, rfl⟩
  obtain ⟨q, e2⟩ : ∃ q, decide (x ≤ 536870912) = q := ⟨_, rfl⟩
  obtain ⟨r, e3⟩ : ∃ r, decide (-536870912 ≤ y) = r := ⟨_, rfl⟩
  obtain ⟨s, e4⟩ : ∃ s, decide (y ≤ 536870912) = s := ⟨_, rfl⟩
  rw [e1, e2, e3, e4]
  cases p
  · refine enter fun u => ?_
    go_enter Tryz.func10, Tryz.ntmps10
    go_wp2_with (first
      | ((with_reducible refine ls_skip ?_ ?_); (exact rfl); (try simp only [Act.put, List.setIfInBounds_toArray, List.set_cons_succ, List.set_cons_zero]))
      | ((with_reducible refine ck_box ?_); refine list_box rfl fun _ _ => ?_)
      | ((with_reducible refine ck_load ?_); first | refine ls_load rfl inferInstance inferInstance ?_ | refine ls_cell rfl inferInstance inferInstance ?_)
      | ((with_reducible refine ck_gload ?_); first | refine lsg_load rfl rfl inferInstance inferInstance ?_ | refine lsg_cell rfl rfl inferInstance inferInstance ?_))
    go_ret
    exact ⟨rfl, KW.below _⟩
  cases q
  · refine enter fun u => ?_
    go_enter Tryz.func10, Tryz.ntmps10
    go_wp2_with (first
      | ((with_reducible refine ls_skip ?_ ?_); (exact rfl); (try simp only [Act.put, List.setIfInBounds_toArray, List.set_cons_succ, List.set_cons_zero]))
      | ((with_reducible refine ck_box ?_); refine list_box rfl fun _ _ => ?_)
      | ((with_reducible refine ck_load ?_); first | refine ls_load rfl inferInstance inferInstance ?_ | refine ls_cell rfl inferInstance inferInstance ?_)
      | ((with_reducible refine ck_gload ?_); first | refine lsg_load rfl rfl inferInstance inferInstance ?_ | refine lsg_cell rfl rfl inferInstance inferInstance ?_))
    go_ret
    exact ⟨rfl, KW.below _⟩
  cases r
  · refine enter fun u => ?_
    go_enter Tryz.func10, Tryz.ntmps10
    go_wp2_with (first
      | ((with_reducible refine ls_skip ?_ ?_); (exact rfl); (try simp only [Act.put, List.setIfInBounds_toArray, List.set_cons_succ, List.set_cons_zero]))
      | ((with_reducible refine ck_box ?_); refine list_box rfl fun _ _ => ?_)
      | ((with_reducible refine ck_load ?_); first | refine ls_load rfl inferInstance inferInstance ?_ | refine ls_cell rfl inferInstance inferInstance ?_)
      | ((with_reducible refine ck_gload ?_); first | refine lsg_load rfl rfl inferInstance inferInstance ?_ | refine lsg_cell rfl rfl inferInstance inferInstance ?_))
    go_ret
    exact ⟨rfl, KW.below _⟩
  · refine enter fun u => ?_
    go_enter Tryz.func10, Tryz.ntmps10
    go_wp2_with (first
      | ((with_reducible refine ls_skip ?_ ?_); (exact rfl); (try simp only [Act.put, List.setIfInBounds_toArray, List.set_cons_succ, List.set_cons_zero]))
      | ((with_reducible refine ck_box ?_); refine list_box rfl fun _ _ => ?_)
      | ((with_reducible refine ck_load ?_); first | refine ls_load rfl inferInstance inferInstance ?_ | refine ls_cell rfl inferInstance inferInstance ?_)
      | ((with_reducible refine ck_gload ?_); first | refine lsg_load rfl rfl inferInstance inferInstance ?_ | refine lsg_cell rfl rfl inferInstance inferInstance ?_))
    go_ret
    exact ⟨rfl, KW.below _⟩
set_option maxRecDepth 100000 in
set_option maxHeartbeats 3200000 in
theorem rline_any (x y z u : Int) (w : World) : Calls Tryz.prog 24 #[sgv x y z u] w (Ret (.bool (lineP x y z u)) w) := by
  have HA := fun w => rmay_any x y w
  have HB := fun w => rmay_any z u w
  have HE := fun w => eqlPt x y z u w
  unfold lineP
  rw [show eqP x y z u = (x == z && y == u) from rfl]
  generalize (x == z && y == u) = o at *
  generalize mayP x y = p at *
  generalize mayP z u = q at *
  replace HA := Lib.hid HA
  replace HB := Lib.hid HB
  cases p <;> cases q
  all_goals (
    refine enter fun u => ?_
    go_enter Tryz.func24, Tryz.ntmps24
    go_wp2_with (first
      | ((with_reducible refine ls_skip ?_ ?_); (exact rfl); (try simp only [Act.put, List.setIfInBounds_toArray, List.set_cons_succ, List.set_cons_zero]))
      | ((with_reducible refine ck_box ?_); refine list_box rfl fun _ _ => ?_)
      | ((with_reducible refine ck_load ?_); first | refine ls_load rfl inferInstance inferInstance ?_ | refine ls_cell rfl inferInstance inferInstance ?_)
      | ((with_reducible refine ck_gload ?_); first | refine lsg_load rfl rfl inferInstance inferInstance ?_ | refine lsg_cell rfl rfl inferInstance inferInstance ?_)
      | (go_at_call 10; (with_reducible refine (HA.out _).mono ?_); rintro e w' ⟨rfl, hb'⟩; obtain ⟨_, rfl⟩ := KW.go _ hb'; clear hb')
      | (go_at_call 10; (with_reducible refine (HB.out _).mono ?_); rintro e w' ⟨rfl, hb'⟩; obtain ⟨_, rfl⟩ := KW.go _ hb'; clear hb'))
    go_ret
    exact ⟨rfl, KW.below _⟩)
theorem not_all {p q r : Bool} (h : (p && q && r) = false) : p = false ∨ (p = true ∧ q = false) ∨ (p = true ∧ q = true ∧ r = false) := by
  cases p <;> cases q <;> cases r <;> simp at h ⊢
end Go.Proofs.YtacicfmalhhceaaGreatDoor.PtW

/- Structs by their cells: Pt, Seg, Pt*3. -/
namespace Go.Proofs.YtacicfmalhhceaaGreatDoor.PtW
open Go.RowKit
open KM
set_option maxRecDepth 100000 in
set_option maxRecDepth 100000 in
theorem readPt {H : Type} {enc : TypeId × Value → H} {w₀ : World} {base : Nat} {sp : Nat → Bool} {held : Bool} {l : List Value} (h : KM.Read Tryz.prog enc w₀ base sp held 30 l) : ∃ (x : Int) (y : Int), (-9223372036854775808 ≤ x ∧ x ≤ 9223372036854775807) ∧ (-9223372036854775808 ≤ y ∧ y ≤ 9223372036854775807) ∧ l = (ptc x y).toList := by
  obtain ⟨hl, hs⟩ := KM.read_struct [(3, 0, 1), (3, 1, 1)] 2 (by kernel_rfl) (by kernel_rfl) (by kernel_rfl) h
  obtain ⟨x, b0_0, e0⟩ := KM.read_i64 Tryz.underlying3 (hs 0 _ _ _ rfl)
  obtain ⟨y, b1_0, e1⟩ := KM.read_i64 Tryz.underlying3 (hs 1 _ _ _ rfl)
  refine ⟨x, y, b0_0, b1_0, KM.glue0 [(1, [.int .i64 x]), (1, [.int .i64 y])] ⟨e0, e1, hl⟩ (by kernel_rfl)⟩
set_option maxRecDepth 100000 in
theorem openPt {H : Type} {enc : TypeId × Value → H} {w₀ : World} {base : Nat} {sp : Nat → Bool} {held : Bool} {r : Reach} {b0 : Nat} {v : Value} {d : DataW H} {p : List MemPlace} (hv : Value.okWide Tryz.prog w₀ r b0 30 v) (h : DataW.Trod enc Tryz.prog w₀ base sp held 30 v d p) : ∃ (x : Int) (y : Int), (-9223372036854775808 ≤ x ∧ x ≤ 9223372036854775807) ∧ (-9223372036854775808 ≤ y ∧ y ≤ 9223372036854775807) ∧ v = .agg (ptc x y) := by
  obtain ⟨cs, rfl, hr⟩ := KM.open_row (by kernel_rfl) hv h
  obtain ⟨x, y, b0, b1, e⟩ := readPt hr
  exact ⟨x, y, b0, b1, by rw [← Array.toList_inj.1 e]⟩
set_option maxRecDepth 100000 in
set_option maxRecDepth 100000 in
theorem readSeg {H : Type} {enc : TypeId × Value → H} {w₀ : World} {base : Nat} {sp : Nat → Bool} {held : Bool} {l : List Value} (h : KM.Read Tryz.prog enc w₀ base sp held 54 l) : ∃ (x : Int) (y : Int) (z : Int) (u : Int), (-9223372036854775808 ≤ x ∧ x ≤ 9223372036854775807) ∧ (-9223372036854775808 ≤ y ∧ y ≤ 9223372036854775807) ∧ (-9223372036854775808 ≤ z ∧ z ≤ 9223372036854775807) ∧ (-9223372036854775808 ≤ u ∧ u ≤ 9223372036854775807) ∧ l = (sgc x y z u).toList := by
  obtain ⟨hl, hs⟩ := KM.read_struct [(30, 0, 2), (30, 2, 2)] 4 (by kernel_rfl) (by kernel_rfl) (by kernel_rfl) h
  obtain ⟨x, y, b0_0, b0_1, e0⟩ := readPt (hs 0 _ _ _ rfl)
  obtain ⟨z, u, b1_0, b1_1, e1⟩ := readPt (hs 1 _ _ _ rfl)
  refine ⟨x, y, z, u, b0_0, b0_1, b1_0, b1_1, KM.glue0 [(2, (ptc x y).toList), (2, (ptc z u).toList)] ⟨e0, e1, hl⟩ (by kernel_rfl)⟩
set_option maxRecDepth 100000 in
theorem openSeg {H : Type} {enc : TypeId × Value → H} {w₀ : World} {base : Nat} {sp : Nat → Bool} {held : Bool} {r : Reach} {b0 : Nat} {v : Value} {d : DataW H} {p : List MemPlace} (hv : Value.okWide Tryz.prog w₀ r b0 54 v) (h : DataW.Trod enc Tryz.prog w₀ base sp held 54 v d p) : ∃ (x : Int) (y : Int) (z : Int) (u : Int), (-9223372036854775808 ≤ x ∧ x ≤ 9223372036854775807) ∧ (-9223372036854775808 ≤ y ∧ y ≤ 9223372036854775807) ∧ (-9223372036854775808 ≤ z ∧ z ≤ 9223372036854775807) ∧ (-9223372036854775808 ≤ u ∧ u ≤ 9223372036854775807) ∧ v = .agg (sgc x y z u) := by
  obtain ⟨cs, rfl, hr⟩ := KM.open_row (by kernel_rfl) hv h
  obtain ⟨x, y, z, u, b0, b1, b2, b3, e⟩ := readSeg hr
  exact ⟨x, y, z, u, b0, b1, b2, b3, by rw [← Array.toList_inj.1 e]⟩
end Go.Proofs.YtacicfmalhhceaaGreatDoor.PtW

