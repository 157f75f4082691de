/-
  Structs by their cells: Pt, Seg, Pt*3.
-/
import Derived.Test.YtnbipfoipnaafaaBase
namespace Go.Proofs.Ytnbipfoipnaafaa.PtW
open Go.RowKit
open KM
set_option maxRecDepth 100000 in
instance scalB : Scal Try.prog 4 := ⟨by kernel_rfl⟩
set_option maxRecDepth 100000 in
instance scalI : Scal Try.prog 3 := ⟨by kernel_rfl⟩
def ptc (x : Int) (y : Int) : Array Value := #[.int .i64 x, .int .i64 y]
abbrev ptv (x : Int) (y : Int) : Value := .agg (ptc x y)
set_option maxRecDepth 100000 in
theorem ptc_size (x : Int) (y : Int) : (ptc x y).size = 2 := rfl
set_option maxRecDepth 100000 in
theorem rowPt (x : Int) (y : Int) : Row Try.prog 23 (ptc x y).size := ⟨by kernel_rfl, by kernel_rfl⟩
set_option maxRecDepth 100000 in
instance celPt (x : Int) (y : Int) : Cel Try.prog 23 (ptc x y) := ⟨rowPt x y, by kernel_rfl⟩
set_option maxRecDepth 100000 in
@[simp] theorem ptc_0 (x : Int) (y : Int) : (ptc x y)[0]? = some (.int .i64 x) := rfl
set_option maxRecDepth 100000 in
@[simp] theorem ptc_0' (x : Int) (y : Int) (h : 0 < (ptc x y).size) : (ptc x y)[0]'h = .int .i64 x := rfl
set_option maxRecDepth 100000 in
instance cellPt_0 (x : Int) (y : Int) : CellV Try.prog 3 (ptc x y) 0 (.int .i64 x) := ⟨⟨by kernel_rfl⟩, rfl⟩
set_option maxRecDepth 100000 in
instance putPt_0 (x : Int) (y : Int) (x₂ : Int) : PutV Try.prog 3 (ptc x y) 0 (.int .i64 x₂) (ptc x₂ y) := ⟨by kernel_rfl, rfl, rfl, by rw [ptc_size]; decide, rfl⟩
set_option maxRecDepth 100000 in
@[simp] theorem ptc_1 (x : Int) (y : Int) : (ptc x y)[1]? = some (.int .i64 y) := rfl
set_option maxRecDepth 100000 in
@[simp] theorem ptc_1' (x : Int) (y : Int) (h : 1 < (ptc x y).size) : (ptc x y)[1]'h = .int .i64 y := rfl
set_option maxRecDepth 100000 in
instance cellPt_1 (x : Int) (y : Int) : CellV Try.prog 3 (ptc x y) 1 (.int .i64 y) := ⟨⟨by kernel_rfl⟩, rfl⟩
set_option maxRecDepth 100000 in
instance putPt_1 (x : Int) (y : Int) (y₂ : Int) : PutV Try.prog 3 (ptc x y) 1 (.int .i64 y₂) (ptc x y₂) := ⟨by kernel_rfl, rfl, rfl, by rw [ptc_size]; decide, rfl⟩
set_option maxRecDepth 100000 in
instance putPt (x : Int) (y : Int) (x' : Int) (y' : Int) : PutP Try.prog 23 (ptc x y) 0 (ptc x' y') (ptc x' y') := PutP.of inferInstance rfl
set_option maxRecDepth 100000 in
instance zerPt : ZeroC Try.prog 23 (ptc 0 0) := ⟨by unfold KM.Zero; kernel_rfl⟩
section
variable {ops : Array Oper} {Q : Exit → Act → World → Prop} {rest : List Oper} {a : Act} {w : World} {d₀ : Option Tmp} {ty : TypeId} {ps : String} {af : Array Edge} {gd : Option (Nat × Bool)} {x0 : Operand} {x1 : Operand} {x : Int} {y : Int}
set_option maxRecDepth 100000 in
theorem exec_Pt_  (w : World) : (execOp a.eval ⟨d₀, .build 23 #[], ty, ps, af, gd⟩).run Try.prog w = .ok (.value (.agg (ptc 0 0))) w := exec_build (by kernel_rfl) w
set_option maxRecDepth 100000 in
theorem ls_Pt_  (h : wpList Try.prog ops Q rest (a.put d₀ (.agg (ptc 0 0))) w) : wpList Try.prog ops Q (⟨d₀, .build 23 #[], ty, ps, af, none⟩ :: rest) a w := ls_value (exec_Pt_  w) h
set_option maxRecDepth 100000 in
theorem lsg_Pt_ (hw : Region.wanted ⟨d₀, .build 23 #[], ty, ps, af, gd⟩ (yielded ops a.tmps) = true)  (h : wpList Try.prog ops Q rest (a.put d₀ (.agg (ptc 0 0))) w) : wpList Try.prog ops Q (⟨d₀, .build 23 #[], ty, ps, af, gd⟩ :: rest) a w := lsg_value hw (exec_Pt_  w) h
set_option maxRecDepth 100000 in
theorem qq_Pt_ {C : World → Prop} {TQ : Act → Prop}  (hw : Region.wanted ⟨d₀, .build 23 #[], ty, ps, af, gd⟩ (yielded ops a.tmps) = true) (h : QQ Try.prog ops C TQ rest (a.put d₀ (.agg (ptc 0 0)))) : QQ Try.prog ops C TQ (⟨d₀, .build 23 #[], ty, ps, af, gd⟩ :: rest) a := qq_value (fun w => exec_Pt_  w) hw h
set_option maxRecDepth 100000 in
theorem mm_Pt_ {W : World} {L Lc : List Ent} {r₀ : List St}  (h : MM Try.prog Q W Lc r₀ (a.put d₀ (.agg (ptc 0 0))) L) : MM Try.prog Q W Lc (.take ⟨d₀, .build 23 #[], ty, ps, af, none⟩ :: r₀) a L := mm_value (fun w => exec_Pt_  w) h
set_option maxRecDepth 100000 in
theorem exec_Pt_0 (h0 : a.eval x0 = .int .i64 x) (w : World) : (execOp a.eval ⟨d₀, .build 23 #[(0, x0)], ty, ps, af, gd⟩).run Try.prog w = .ok (.value (.agg (ptc x 0))) w := exec_build (by simp only [List.map_toArray, List.map_cons, List.map_nil, h0]; kernel_rfl) w
set_option maxRecDepth 100000 in
theorem ls_Pt_0 (h0 : a.eval x0 = .int .i64 x) (h : wpList Try.prog ops Q rest (a.put d₀ (.agg (ptc x 0))) w) : wpList Try.prog ops Q (⟨d₀, .build 23 #[(0, x0)], ty, ps, af, none⟩ :: rest) a w := ls_value (exec_Pt_0 h0 w) h
set_option maxRecDepth 100000 in
theorem lsg_Pt_0 (hw : Region.wanted ⟨d₀, .build 23 #[(0, x0)], ty, ps, af, gd⟩ (yielded ops a.tmps) = true) (h0 : a.eval x0 = .int .i64 x) (h : wpList Try.prog ops Q rest (a.put d₀ (.agg (ptc x 0))) w) : wpList Try.prog ops Q (⟨d₀, .build 23 #[(0, x0)], ty, ps, af, gd⟩ :: rest) a w := lsg_value hw (exec_Pt_0 h0 w) h
set_option maxRecDepth 100000 in
theorem qq_Pt_0 {C : World → Prop} {TQ : Act → Prop} (h0 : a.eval x0 = .int .i64 x) (hw : Region.wanted ⟨d₀, .build 23 #[(0, x0)], ty, ps, af, gd⟩ (yielded ops a.tmps) = true) (h : QQ Try.prog ops C TQ rest (a.put d₀ (.agg (ptc x 0)))) : QQ Try.prog ops C TQ (⟨d₀, .build 23 #[(0, x0)], ty, ps, af, gd⟩ :: rest) a := qq_value (fun w => exec_Pt_0 h0 w) hw h
set_option maxRecDepth 100000 in
theorem mm_Pt_0 {W : World} {L Lc : List Ent} {r₀ : List St} (h0 : a.eval x0 = .int .i64 x) (h : MM Try.prog Q W Lc r₀ (a.put d₀ (.agg (ptc x 0))) L) : MM Try.prog Q W Lc (.take ⟨d₀, .build 23 #[(0, x0)], ty, ps, af, none⟩ :: r₀) a L := mm_value (fun w => exec_Pt_0 h0 w) h
set_option maxRecDepth 100000 in
theorem exec_Pt_1 (h1 : a.eval x1 = .int .i64 y) (w : World) : (execOp a.eval ⟨d₀, .build 23 #[(1, x1)], ty, ps, af, gd⟩).run Try.prog w = .ok (.value (.agg (ptc 0 y))) w := exec_build (by simp only [List.map_toArray, List.map_cons, List.map_nil, h1]; kernel_rfl) w
set_option maxRecDepth 100000 in
theorem ls_Pt_1 (h1 : a.eval x1 = .int .i64 y) (h : wpList Try.prog ops Q rest (a.put d₀ (.agg (ptc 0 y))) w) : wpList Try.prog ops Q (⟨d₀, .build 23 #[(1, x1)], ty, ps, af, none⟩ :: rest) a w := ls_value (exec_Pt_1 h1 w) h
set_option maxRecDepth 100000 in
theorem lsg_Pt_1 (hw : Region.wanted ⟨d₀, .build 23 #[(1, x1)], ty, ps, af, gd⟩ (yielded ops a.tmps) = true) (h1 : a.eval x1 = .int .i64 y) (h : wpList Try.prog ops Q rest (a.put d₀ (.agg (ptc 0 y))) w) : wpList Try.prog ops Q (⟨d₀, .build 23 #[(1, x1)], ty, ps, af, gd⟩ :: rest) a w := lsg_value hw (exec_Pt_1 h1 w) h
set_option maxRecDepth 100000 in
theorem qq_Pt_1 {C : World → Prop} {TQ : Act → Prop} (h1 : a.eval x1 = .int .i64 y) (hw : Region.wanted ⟨d₀, .build 23 #[(1, x1)], ty, ps, af, gd⟩ (yielded ops a.tmps) = true) (h : QQ Try.prog ops C TQ rest (a.put d₀ (.agg (ptc 0 y)))) : QQ Try.prog ops C TQ (⟨d₀, .build 23 #[(1, x1)], ty, ps, af, gd⟩ :: rest) a := qq_value (fun w => exec_Pt_1 h1 w) hw h
set_option maxRecDepth 100000 in
theorem mm_Pt_1 {W : World} {L Lc : List Ent} {r₀ : List St} (h1 : a.eval x1 = .int .i64 y) (h : MM Try.prog Q W Lc r₀ (a.put d₀ (.agg (ptc 0 y))) L) : MM Try.prog Q W Lc (.take ⟨d₀, .build 23 #[(1, x1)], ty, ps, af, none⟩ :: r₀) a L := mm_value (fun w => exec_Pt_1 h1 w) h
set_option maxRecDepth 100000 in
theorem exec_Pt (h0 : a.eval x0 = .int .i64 x) (h1 : a.eval x1 = .int .i64 y) (w : World) : (execOp a.eval ⟨d₀, .build 23 #[(0, x0), (1, x1)], ty, ps, af, gd⟩).run Try.prog w = .ok (.value (.agg (ptc x y))) w := exec_build (by simp only [List.map_toArray, List.map_cons, List.map_nil, h0, h1]; kernel_rfl) w
set_option maxRecDepth 100000 in
theorem ls_Pt (h0 : a.eval x0 = .int .i64 x) (h1 : a.eval x1 = .int .i64 y) (h : wpList Try.prog ops Q rest (a.put d₀ (.agg (ptc x y))) w) : wpList Try.prog ops Q (⟨d₀, .build 23 #[(0, x0), (1, x1)], ty, ps, af, none⟩ :: rest) a w := ls_value (exec_Pt h0 h1 w) h
set_option maxRecDepth 100000 in
theorem lsg_Pt (hw : Region.wanted ⟨d₀, .build 23 #[(0, x0), (1, x1)], ty, ps, af, gd⟩ (yielded ops a.tmps) = true) (h0 : a.eval x0 = .int .i64 x) (h1 : a.eval x1 = .int .i64 y) (h : wpList Try.prog ops Q rest (a.put d₀ (.agg (ptc x y))) w) : wpList Try.prog ops Q (⟨d₀, .build 23 #[(0, x0), (1, x1)], ty, ps, af, gd⟩ :: rest) a w := lsg_value hw (exec_Pt h0 h1 w) h
set_option maxRecDepth 100000 in
theorem qq_Pt {C : World → Prop} {TQ : Act → Prop} (h0 : a.eval x0 = .int .i64 x) (h1 : a.eval x1 = .int .i64 y) (hw : Region.wanted ⟨d₀, .build 23 #[(0, x0), (1, x1)], ty, ps, af, gd⟩ (yielded ops a.tmps) = true) (h : QQ Try.prog ops C TQ rest (a.put d₀ (.agg (ptc x y)))) : QQ Try.prog ops C TQ (⟨d₀, .build 23 #[(0, x0), (1, x1)], ty, ps, af, gd⟩ :: rest) a := qq_value (fun w => exec_Pt h0 h1 w) hw h
set_option maxRecDepth 100000 in
theorem mm_Pt {W : World} {L Lc : List Ent} {r₀ : List St} (h0 : a.eval x0 = .int .i64 x) (h1 : a.eval x1 = .int .i64 y) (h : MM Try.prog Q W Lc r₀ (a.put d₀ (.agg (ptc x y))) L) : MM Try.prog Q W Lc (.take ⟨d₀, .build 23 #[(0, x0), (1, x1)], ty, ps, af, none⟩ :: r₀) a L := mm_value (fun w => exec_Pt h0 h1 w) h
end
set_option maxRecDepth 100000 in
@[simp] theorem fieldPt_0 (x : Int) (y : Int) (w : World) : (Instr.field 23 (.agg (ptc x y)) 0).run Try.prog w = .ok (.int .i64 x) w := run_field (by kernel_rfl) (tf := 3) (o := 0) (by kernel_rfl) (fun w => run_part_plain w (by kernel_rfl) rfl) w
set_option maxRecDepth 100000 in
@[simp] theorem fieldPt_1 (x : Int) (y : Int) (w : World) : (Instr.field 23 (.agg (ptc x y)) 1).run Try.prog w = .ok (.int .i64 y) w := run_field (by kernel_rfl) (tf := 3) (o := 1) (by kernel_rfl) (fun w => run_part_plain w (by kernel_rfl) rfl) w
set_option maxRecDepth 100000 in
theorem eqlPt_d (k₀ : Nat) (x : Int) (y : Int) (x' : Int) (y' : Int)  (w : World) : (Op.equalIn (k₀ + 2) 23 (.agg (ptc x y)) (.agg (ptc x' y'))).run Try.prog w = .ok (x == x' && y == y') w :=
  eqStruct [(3, 0), (3, 1)] [x == x', y == y'] (by kernel_rfl) (by kernel_rfl) (by kernel_rfl) ⟨⟨.int .i64 x, .int .i64 x', run_part_plain w (by kernel_rfl) rfl, run_part_plain w (by kernel_rfl) rfl, run_equalIn_int w (k₀) _ .i64 .i64 _ _ Try.underlying3⟩, ⟨.int .i64 y, .int .i64 y', run_part_plain w (by kernel_rfl) rfl, run_part_plain w (by kernel_rfl) rfl, run_equalIn_int w (k₀) _ .i64 .i64 _ _ Try.underlying3⟩, trivial⟩
set_option maxRecDepth 100000 in
theorem eqlPt (x : Int) (y : Int) (x' : Int) (y' : Int)  (w : World) : (Op.equalIn 10000 23 (.agg (ptc x y)) (.agg (ptc x' y'))).run Try.prog w = .ok (x == x' && y == y') w := at_depth (P := fun k => (Op.equalIn k _ _ _).run _ w = _) (show 10000 = 9998 + 2 from rfl) (eqlPt_d 9998 x y x' y'  w)
set_option maxRecDepth 100000 in
theorem selfPt_d (k₀ : Nat) (x : Int) (y : Int) (w : World) : (Op.equalIn (k₀ + 2) 23 (.agg (ptc x y)) (.agg (ptc x y))).run Try.prog w = .ok true w :=
  eqStruct [(3, 0), (3, 1)] [true, true] (by kernel_rfl) (by kernel_rfl) (by kernel_rfl) ⟨⟨.int .i64 x, .int .i64 x, run_part_plain w (by kernel_rfl) rfl, run_part_plain w (by kernel_rfl) rfl, (run_equalIn_int w (k₀) _ .i64 .i64 _ _ Try.underlying3).trans (by simp)⟩, ⟨.int .i64 y, .int .i64 y, run_part_plain w (by kernel_rfl) rfl, run_part_plain w (by kernel_rfl) rfl, (run_equalIn_int w (k₀) _ .i64 .i64 _ _ Try.underlying3).trans (by simp)⟩, trivial⟩
set_option maxRecDepth 100000 in
@[simp] theorem selfPt (x : Int) (y : Int) (w : World) : (Op.equalIn 10000 23 (.agg (ptc x y)) (.agg (ptc x y))).run Try.prog w = .ok true w := at_depth (P := fun k => (Op.equalIn k _ _ _).run _ w = _) (show 10000 = 9998 + 2 from rfl) (selfPt_d 9998 x y w)
def sgc (x : Int) (y : Int) (z : Int) (u : Int) : Array Value := #[.int .i64 x, .int .i64 y, .int .i64 z, .int .i64 u]
abbrev sgv (x : Int) (y : Int) (z : Int) (u : Int) : Value := .agg (sgc x y z u)
set_option maxRecDepth 100000 in
theorem sgc_size (x : Int) (y : Int) (z : Int) (u : Int) : (sgc x y z u).size = 4 := rfl
set_option maxRecDepth 100000 in
theorem rowSeg (x : Int) (y : Int) (z : Int) (u : Int) : Row Try.prog 31 (sgc x y z u).size := ⟨by kernel_rfl, by kernel_rfl⟩
set_option maxRecDepth 100000 in
instance celSeg (x : Int) (y : Int) (z : Int) (u : Int) : Cel Try.prog 31 (sgc x y z u) := ⟨rowSeg x y z u, by kernel_rfl⟩
set_option maxRecDepth 100000 in
instance partSeg_0Pt (x : Int) (y : Int) (z : Int) (u : Int) : Part Try.prog 23 (sgc x y z u) 0 (ptc x y) := Part.of (rowPt _ _) (by kernel_rfl)
set_option maxRecDepth 100000 in
instance putSeg_0Pt (x : Int) (y : Int) (z : Int) (u : Int) (x₂ : Int) (y₂ : Int) : PutP Try.prog 23 (sgc x y z u) 0 (ptc x₂ y₂) (sgc x₂ y₂ z u) := ⟨rowPt _ _, by kernel_rfl, by rw [ptc_size]; exact (by decide : 0 + 2 ≤ 4), by kernel_rfl⟩
set_option maxRecDepth 100000 in
@[simp] theorem sgc_0 (x : Int) (y : Int) (z : Int) (u : Int) : (sgc x y z u)[0]? = some (.int .i64 x) := rfl
set_option maxRecDepth 100000 in
@[simp] theorem sgc_0' (x : Int) (y : Int) (z : Int) (u : Int) (h : 0 < (sgc x y z u).size) : (sgc x y z u)[0]'h = .int .i64 x := rfl
set_option maxRecDepth 100000 in
instance cellSeg_0 (x : Int) (y : Int) (z : Int) (u : Int) : CellV Try.prog 3 (sgc x y z u) 0 (.int .i64 x) := ⟨⟨by kernel_rfl⟩, rfl⟩
set_option maxRecDepth 100000 in
instance putSeg_0 (x : Int) (y : Int) (z : Int) (u : Int) (x₂ : Int) : PutV Try.prog 3 (sgc x y z u) 0 (.int .i64 x₂) (sgc x₂ y z u) := ⟨by kernel_rfl, rfl, rfl, by rw [sgc_size]; decide, rfl⟩
set_option maxRecDepth 100000 in
@[simp] theorem sgc_1 (x : Int) (y : Int) (z : Int) (u : Int) : (sgc x y z u)[1]? = some (.int .i64 y) := rfl
set_option maxRecDepth 100000 in
@[simp] theorem sgc_1' (x : Int) (y : Int) (z : Int) (u : Int) (h : 1 < (sgc x y z u).size) : (sgc x y z u)[1]'h = .int .i64 y := rfl
set_option maxRecDepth 100000 in
instance cellSeg_1 (x : Int) (y : Int) (z : Int) (u : Int) : CellV Try.prog 3 (sgc x y z u) 1 (.int .i64 y) := ⟨⟨by kernel_rfl⟩, rfl⟩
set_option maxRecDepth 100000 in
instance putSeg_1 (x : Int) (y : Int) (z : Int) (u : Int) (y₂ : Int) : PutV Try.prog 3 (sgc x y z u) 1 (.int .i64 y₂) (sgc x y₂ z u) := ⟨by kernel_rfl, rfl, rfl, by rw [sgc_size]; decide, rfl⟩
set_option maxRecDepth 100000 in
instance partSeg_2Pt (x : Int) (y : Int) (z : Int) (u : Int) : Part Try.prog 23 (sgc x y z u) 2 (ptc z u) := Part.of (rowPt _ _) (by kernel_rfl)
set_option maxRecDepth 100000 in
instance putSeg_2Pt (x : Int) (y : Int) (z : Int) (u : Int) (z₂ : Int) (u₂ : Int) : PutP Try.prog 23 (sgc x y z u) 2 (ptc z₂ u₂) (sgc x y z₂ u₂) := ⟨rowPt _ _, by kernel_rfl, by rw [ptc_size]; exact (by decide : 2 + 2 ≤ 4), by kernel_rfl⟩
set_option maxRecDepth 100000 in
@[simp] theorem sgc_2 (x : Int) (y : Int) (z : Int) (u : Int) : (sgc x y z u)[2]? = some (.int .i64 z) := rfl
set_option maxRecDepth 100000 in
@[simp] theorem sgc_2' (x : Int) (y : Int) (z : Int) (u : Int) (h : 2 < (sgc x y z u).size) : (sgc x y z u)[2]'h = .int .i64 z := rfl
set_option maxRecDepth 100000 in
instance cellSeg_2 (x : Int) (y : Int) (z : Int) (u : Int) : CellV Try.prog 3 (sgc x y z u) 2 (.int .i64 z) := ⟨⟨by kernel_rfl⟩, rfl⟩
set_option maxRecDepth 100000 in
instance putSeg_2 (x : Int) (y : Int) (z : Int) (u : Int) (z₂ : Int) : PutV Try.prog 3 (sgc x y z u) 2 (.int .i64 z₂) (sgc x y z₂ u) := ⟨by kernel_rfl, rfl, rfl, by rw [sgc_size]; decide, rfl⟩
set_option maxRecDepth 100000 in
@[simp] theorem sgc_3 (x : Int) (y : Int) (z : Int) (u : Int) : (sgc x y z u)[3]? = some (.int .i64 u) := rfl
set_option maxRecDepth 100000 in
@[simp] theorem sgc_3' (x : Int) (y : Int) (z : Int) (u : Int) (h : 3 < (sgc x y z u).size) : (sgc x y z u)[3]'h = .int .i64 u := rfl
set_option maxRecDepth 100000 in
instance cellSeg_3 (x : Int) (y : Int) (z : Int) (u : Int) : CellV Try.prog 3 (sgc x y z u) 3 (.int .i64 u) := ⟨⟨by kernel_rfl⟩, rfl⟩
set_option maxRecDepth 100000 in
instance putSeg_3 (x : Int) (y : Int) (z : Int) (u : Int) (u₂ : Int) : PutV Try.prog 3 (sgc x y z u) 3 (.int .i64 u₂) (sgc x y z u₂) := ⟨by kernel_rfl, rfl, rfl, by rw [sgc_size]; decide, rfl⟩
set_option maxRecDepth 100000 in
instance putSeg (x : Int) (y : Int) (z : Int) (u : Int) (x' : Int) (y' : Int) (z' : Int) (u' : Int) : PutP Try.prog 31 (sgc x y z u) 0 (sgc x' y' z' u') (sgc x' y' z' u') := PutP.of inferInstance rfl
set_option maxRecDepth 100000 in
instance zerSeg : ZeroC Try.prog 31 (sgc 0 0 0 0) := ⟨by unfold KM.Zero; kernel_rfl⟩
section
variable {ops : Array Oper} {Q : Exit → Act → World → Prop} {rest : List Oper} {a : Act} {w : World} {d₀ : Option Tmp} {ty : TypeId} {ps : String} {af : Array Edge} {gd : Option (Nat × Bool)} {x0 : Operand} {x1 : Operand} {x : Int} {y : Int} {z : Int} {u : Int}
set_option maxRecDepth 100000 in
theorem exec_Seg_  (w : World) : (execOp a.eval ⟨d₀, .build 31 #[], ty, ps, af, gd⟩).run Try.prog w = .ok (.value (.agg (sgc 0 0 0 0))) w := exec_build (by kernel_rfl) w
set_option maxRecDepth 100000 in
theorem ls_Seg_  (h : wpList Try.prog ops Q rest (a.put d₀ (.agg (sgc 0 0 0 0))) w) : wpList Try.prog ops Q (⟨d₀, .build 31 #[], ty, ps, af, none⟩ :: rest) a w := ls_value (exec_Seg_  w) h
set_option maxRecDepth 100000 in
theorem lsg_Seg_ (hw : Region.wanted ⟨d₀, .build 31 #[], ty, ps, af, gd⟩ (yielded ops a.tmps) = true)  (h : wpList Try.prog ops Q rest (a.put d₀ (.agg (sgc 0 0 0 0))) w) : wpList Try.prog ops Q (⟨d₀, .build 31 #[], ty, ps, af, gd⟩ :: rest) a w := lsg_value hw (exec_Seg_  w) h
set_option maxRecDepth 100000 in
theorem qq_Seg_ {C : World → Prop} {TQ : Act → Prop}  (hw : Region.wanted ⟨d₀, .build 31 #[], ty, ps, af, gd⟩ (yielded ops a.tmps) = true) (h : QQ Try.prog ops C TQ rest (a.put d₀ (.agg (sgc 0 0 0 0)))) : QQ Try.prog ops C TQ (⟨d₀, .build 31 #[], ty, ps, af, gd⟩ :: rest) a := qq_value (fun w => exec_Seg_  w) hw h
set_option maxRecDepth 100000 in
theorem mm_Seg_ {W : World} {L Lc : List Ent} {r₀ : List St}  (h : MM Try.prog Q W Lc r₀ (a.put d₀ (.agg (sgc 0 0 0 0))) L) : MM Try.prog Q W Lc (.take ⟨d₀, .build 31 #[], ty, ps, af, none⟩ :: r₀) a L := mm_value (fun w => exec_Seg_  w) h
set_option maxRecDepth 100000 in
theorem exec_Seg_0 (h0 : a.eval x0 = .agg (ptc x y)) (w : World) : (execOp a.eval ⟨d₀, .build 31 #[(0, x0)], ty, ps, af, gd⟩).run Try.prog w = .ok (.value (.agg (sgc x y 0 0))) w := exec_build (by simp only [List.map_toArray, List.map_cons, List.map_nil, h0]; kernel_rfl) w
set_option maxRecDepth 100000 in
theorem ls_Seg_0 (h0 : a.eval x0 = .agg (ptc x y)) (h : wpList Try.prog ops Q rest (a.put d₀ (.agg (sgc x y 0 0))) w) : wpList Try.prog ops Q (⟨d₀, .build 31 #[(0, x0)], ty, ps, af, none⟩ :: rest) a w := ls_value (exec_Seg_0 h0 w) h
set_option maxRecDepth 100000 in
theorem lsg_Seg_0 (hw : Region.wanted ⟨d₀, .build 31 #[(0, x0)], ty, ps, af, gd⟩ (yielded ops a.tmps) = true) (h0 : a.eval x0 = .agg (ptc x y)) (h : wpList Try.prog ops Q rest (a.put d₀ (.agg (sgc x y 0 0))) w) : wpList Try.prog ops Q (⟨d₀, .build 31 #[(0, x0)], ty, ps, af, gd⟩ :: rest) a w := lsg_value hw (exec_Seg_0 h0 w) h
set_option maxRecDepth 100000 in
theorem qq_Seg_0 {C : World → Prop} {TQ : Act → Prop} (h0 : a.eval x0 = .agg (ptc x y)) (hw : Region.wanted ⟨d₀, .build 31 #[(0, x0)], ty, ps, af, gd⟩ (yielded ops a.tmps) = true) (h : QQ Try.prog ops C TQ rest (a.put d₀ (.agg (sgc x y 0 0)))) : QQ Try.prog ops C TQ (⟨d₀, .build 31 #[(0, x0)], ty, ps, af, gd⟩ :: rest) a := qq_value (fun w => exec_Seg_0 h0 w) hw h
set_option maxRecDepth 100000 in
theorem mm_Seg_0 {W : World} {L Lc : List Ent} {r₀ : List St} (h0 : a.eval x0 = .agg (ptc x y)) (h : MM Try.prog Q W Lc r₀ (a.put d₀ (.agg (sgc x y 0 0))) L) : MM Try.prog Q W Lc (.take ⟨d₀, .build 31 #[(0, x0)], ty, ps, af, none⟩ :: r₀) a L := mm_value (fun w => exec_Seg_0 h0 w) h
set_option maxRecDepth 100000 in
theorem exec_Seg_1 (h1 : a.eval x1 = .agg (ptc z u)) (w : World) : (execOp a.eval ⟨d₀, .build 31 #[(1, x1)], ty, ps, af, gd⟩).run Try.prog w = .ok (.value (.agg (sgc 0 0 z u))) w := exec_build (by simp only [List.map_toArray, List.map_cons, List.map_nil, h1]; kernel_rfl) w
set_option maxRecDepth 100000 in
theorem ls_Seg_1 (h1 : a.eval x1 = .agg (ptc z u)) (h : wpList Try.prog ops Q rest (a.put d₀ (.agg (sgc 0 0 z u))) w) : wpList Try.prog ops Q (⟨d₀, .build 31 #[(1, x1)], ty, ps, af, none⟩ :: rest) a w := ls_value (exec_Seg_1 h1 w) h
set_option maxRecDepth 100000 in
theorem lsg_Seg_1 (hw : Region.wanted ⟨d₀, .build 31 #[(1, x1)], ty, ps, af, gd⟩ (yielded ops a.tmps) = true) (h1 : a.eval x1 = .agg (ptc z u)) (h : wpList Try.prog ops Q rest (a.put d₀ (.agg (sgc 0 0 z u))) w) : wpList Try.prog ops Q (⟨d₀, .build 31 #[(1, x1)], ty, ps, af, gd⟩ :: rest) a w := lsg_value hw (exec_Seg_1 h1 w) h
set_option maxRecDepth 100000 in
theorem qq_Seg_1 {C : World → Prop} {TQ : Act → Prop} (h1 : a.eval x1 = .agg (ptc z u)) (hw : Region.wanted ⟨d₀, .build 31 #[(1, x1)], ty, ps, af, gd⟩ (yielded ops a.tmps) = true) (h : QQ Try.prog ops C TQ rest (a.put d₀ (.agg (sgc 0 0 z u)))) : QQ Try.prog ops C TQ (⟨d₀, .build 31 #[(1, x1)], ty, ps, af, gd⟩ :: rest) a := qq_value (fun w => exec_Seg_1 h1 w) hw h
set_option maxRecDepth 100000 in
theorem mm_Seg_1 {W : World} {L Lc : List Ent} {r₀ : List St} (h1 : a.eval x1 = .agg (ptc z u)) (h : MM Try.prog Q W Lc r₀ (a.put d₀ (.agg (sgc 0 0 z u))) L) : MM Try.prog Q W Lc (.take ⟨d₀, .build 31 #[(1, x1)], ty, ps, af, none⟩ :: r₀) a L := mm_value (fun w => exec_Seg_1 h1 w) h
set_option maxRecDepth 100000 in
theorem exec_Seg (h0 : a.eval x0 = .agg (ptc x y)) (h1 : a.eval x1 = .agg (ptc z u)) (w : World) : (execOp a.eval ⟨d₀, .build 31 #[(0, x0), (1, x1)], ty, ps, af, gd⟩).run Try.prog w = .ok (.value (.agg (sgc x y z u))) w := exec_build (by simp only [List.map_toArray, List.map_cons, List.map_nil, h0, h1]; kernel_rfl) w
set_option maxRecDepth 100000 in
theorem ls_Seg (h0 : a.eval x0 = .agg (ptc x y)) (h1 : a.eval x1 = .agg (ptc z u)) (h : wpList Try.prog ops Q rest (a.put d₀ (.agg (sgc x y z u))) w) : wpList Try.prog ops Q (⟨d₀, .build 31 #[(0, x0), (1, x1)], ty, ps, af, none⟩ :: rest) a w := ls_value (exec_Seg h0 h1 w) h
set_option maxRecDepth 100000 in
theorem lsg_Seg (hw : Region.wanted ⟨d₀, .build 31 #[(0, x0), (1, x1)], ty, ps, af, gd⟩ (yielded ops a.tmps) = true) (h0 : a.eval x0 = .agg (ptc x y)) (h1 : a.eval x1 = .agg (ptc z u)) (h : wpList Try.prog ops Q rest (a.put d₀ (.agg (sgc x y z u))) w) : wpList Try.prog ops Q (⟨d₀, .build 31 #[(0, x0), (1, x1)], ty, ps, af, gd⟩ :: rest) a w := lsg_value hw (exec_Seg h0 h1 w) h
set_option maxRecDepth 100000 in
theorem qq_Seg {C : World → Prop} {TQ : Act → Prop} (h0 : a.eval x0 = .agg (ptc x y)) (h1 : a.eval x1 = .agg (ptc z u)) (hw : Region.wanted ⟨d₀, .build 31 #[(0, x0), (1, x1)], ty, ps, af, gd⟩ (yielded ops a.tmps) = true) (h : QQ Try.prog ops C TQ rest (a.put d₀ (.agg (sgc x y z u)))) : QQ Try.prog ops C TQ (⟨d₀, .build 31 #[(0, x0), (1, x1)], ty, ps, af, gd⟩ :: rest) a := qq_value (fun w => exec_Seg h0 h1 w) hw h
set_option maxRecDepth 100000 in
theorem mm_Seg {W : World} {L Lc : List Ent} {r₀ : List St} (h0 : a.eval x0 = .agg (ptc x y)) (h1 : a.eval x1 = .agg (ptc z u)) (h : MM Try.prog Q W Lc r₀ (a.put d₀ (.agg (sgc x y z u))) L) : MM Try.prog Q W Lc (.take ⟨d₀, .build 31 #[(0, x0), (1, x1)], ty, ps, af, none⟩ :: r₀) a L := mm_value (fun w => exec_Seg h0 h1 w) h
end
set_option maxRecDepth 100000 in
@[simp] theorem fieldSeg_0 (x : Int) (y : Int) (z : Int) (u : Int) (w : World) : (Instr.field 31 (.agg (sgc x y z u)) 0).run Try.prog w = .ok (.agg (ptc x y)) w := run_field (by kernel_rfl) (tf := 23) (o := 0) (by kernel_rfl) (fun w => part_row (by first | exact rowI _ _ | (rw [cells_size]; exact rowW) | exact rowPt _ _) (by kernel_rfl) w) w
set_option maxRecDepth 100000 in
@[simp] theorem fieldSeg_1 (x : Int) (y : Int) (z : Int) (u : Int) (w : World) : (Instr.field 31 (.agg (sgc x y z u)) 1).run Try.prog w = .ok (.agg (ptc z u)) w := run_field (by kernel_rfl) (tf := 23) (o := 2) (by kernel_rfl) (fun w => part_row (by first | exact rowI _ _ | (rw [cells_size]; exact rowW) | exact rowPt _ _) (by kernel_rfl) w) w
set_option maxRecDepth 100000 in
theorem eqlSeg_d (k₀ : Nat) (x : Int) (y : Int) (z : Int) (u : Int) (x' : Int) (y' : Int) (z' : Int) (u' : Int)  (w : World) : (Op.equalIn (k₀ + 3) 31 (.agg (sgc x y z u)) (.agg (sgc x' y' z' u'))).run Try.prog w = .ok ((x == x' && y == y') && (z == z' && u == u')) w :=
  eqStruct [(23, 0), (23, 2)] [(x == x' && y == y'), (z == z' && u == u')] (by kernel_rfl) (by kernel_rfl) (by kernel_rfl) ⟨⟨.agg (ptc x y), .agg (ptc x' y'), part_row (by first | exact rowI _ _ | (rw [cells_size]; exact rowW) | exact rowPt _ _) (by kernel_rfl) w, part_row (by first | exact rowI _ _ | (rw [cells_size]; exact rowW) | exact rowPt _ _) (by kernel_rfl) w, eqlPt_d (k₀) x y x' y'  w⟩, ⟨.agg (ptc z u), .agg (ptc z' u'), part_row (by first | exact rowI _ _ | (rw [cells_size]; exact rowW) | exact rowPt _ _) (by kernel_rfl) w, part_row (by first | exact rowI _ _ | (rw [cells_size]; exact rowW) | exact rowPt _ _) (by kernel_rfl) w, eqlPt_d (k₀) z u z' u'  w⟩, trivial⟩
set_option maxRecDepth 100000 in
theorem eqlSeg (x : Int) (y : Int) (z : Int) (u : Int) (x' : Int) (y' : Int) (z' : Int) (u' : Int)  (w : World) : (Op.equalIn 10000 31 (.agg (sgc x y z u)) (.agg (sgc x' y' z' u'))).run Try.prog w = .ok ((x == x' && y == y') && (z == z' && u == u')) w := at_depth (P := fun k => (Op.equalIn k _ _ _).run _ w = _) (show 10000 = 9997 + 3 from rfl) (eqlSeg_d 9997 x y z u x' y' z' u'  w)
set_option maxRecDepth 100000 in
theorem selfSeg_d (k₀ : Nat) (x : Int) (y : Int) (z : Int) (u : Int) (w : World) : (Op.equalIn (k₀ + 3) 31 (.agg (sgc x y z u)) (.agg (sgc x y z u))).run Try.prog w = .ok true w :=
  eqStruct [(23, 0), (23, 2)] [true, true] (by kernel_rfl) (by kernel_rfl) (by kernel_rfl) ⟨⟨.agg (ptc x y), .agg (ptc x y), part_row (by first | exact rowI _ _ | (rw [cells_size]; exact rowW) | exact rowPt _ _) (by kernel_rfl) w, part_row (by first | exact rowI _ _ | (rw [cells_size]; exact rowW) | exact rowPt _ _) (by kernel_rfl) w, (selfPt_d (k₀) x y w).trans (by simp)⟩, ⟨.agg (ptc z u), .agg (ptc z u), part_row (by first | exact rowI _ _ | (rw [cells_size]; exact rowW) | exact rowPt _ _) (by kernel_rfl) w, part_row (by first | exact rowI _ _ | (rw [cells_size]; exact rowW) | exact rowPt _ _) (by kernel_rfl) w, (selfPt_d (k₀) z u w).trans (by simp)⟩, trivial⟩
set_option maxRecDepth 100000 in
@[simp] theorem selfSeg (x : Int) (y : Int) (z : Int) (u : Int) (w : World) : (Op.equalIn 10000 31 (.agg (sgc x y z u)) (.agg (sgc x y z u))).run Try.prog w = .ok true w := at_depth (P := fun k => (Op.equalIn k _ _ _).run _ w = _) (show 10000 = 9997 + 3 from rfl) (selfSeg_d 9997 x y z u w)
def a3ptc (x0 : Int) (y0 : Int) (x1 : Int) (y1 : Int) (x2 : Int) (y2 : Int) : Array Value := #[.int .i64 x0, .int .i64 y0, .int .i64 x1, .int .i64 y1, .int .i64 x2, .int .i64 y2]
set_option maxRecDepth 100000 in
set_option maxRecDepth 100000 in
theorem rowPt3 (x0 : Int) (y0 : Int) (x1 : Int) (y1 : Int) (x2 : Int) (y2 : Int) : Row Try.prog 37 (a3ptc x0 y0 x1 y1 x2 y2).size := ⟨by kernel_rfl, by kernel_rfl⟩
set_option maxRecDepth 100000 in
set_option maxRecDepth 100000 in
instance celPt3 (x0 : Int) (y0 : Int) (x1 : Int) (y1 : Int) (x2 : Int) (y2 : Int) : Cel Try.prog 37 (a3ptc x0 y0 x1 y1 x2 y2) := ⟨rowPt3 x0 y0 x1 y1 x2 y2, by kernel_rfl⟩
set_option maxRecDepth 100000 in
set_option maxRecDepth 100000 in
instance partPt3_0 (x0 : Int) (y0 : Int) (x1 : Int) (y1 : Int) (x2 : Int) (y2 : Int) : Part Try.prog 23 (a3ptc x0 y0 x1 y1 x2 y2) 0 (ptc x0 y0) := Part.of (rowPt _ _) (by kernel_rfl)
set_option maxRecDepth 100000 in
set_option maxRecDepth 100000 in
instance cellPt3_0_0 (x0 : Int) (y0 : Int) (x1 : Int) (y1 : Int) (x2 : Int) (y2 : Int) : CellV Try.prog 3 (a3ptc x0 y0 x1 y1 x2 y2) 0 (.int .i64 x0) := ⟨⟨by kernel_rfl⟩, rfl⟩
set_option maxRecDepth 100000 in
@[simp] theorem a3ptc_0 (x0 : Int) (y0 : Int) (x1 : Int) (y1 : Int) (x2 : Int) (y2 : Int) : (a3ptc x0 y0 x1 y1 x2 y2)[0]? = some (.int .i64 x0) := rfl
set_option maxRecDepth 100000 in
set_option maxRecDepth 100000 in
instance cellPt3_0_1 (x0 : Int) (y0 : Int) (x1 : Int) (y1 : Int) (x2 : Int) (y2 : Int) : CellV Try.prog 3 (a3ptc x0 y0 x1 y1 x2 y2) 1 (.int .i64 y0) := ⟨⟨by kernel_rfl⟩, rfl⟩
set_option maxRecDepth 100000 in
@[simp] theorem a3ptc_1 (x0 : Int) (y0 : Int) (x1 : Int) (y1 : Int) (x2 : Int) (y2 : Int) : (a3ptc x0 y0 x1 y1 x2 y2)[1]? = some (.int .i64 y0) := rfl
set_option maxRecDepth 100000 in
set_option maxRecDepth 100000 in
instance partPt3_1 (x0 : Int) (y0 : Int) (x1 : Int) (y1 : Int) (x2 : Int) (y2 : Int) : Part Try.prog 23 (a3ptc x0 y0 x1 y1 x2 y2) 2 (ptc x1 y1) := Part.of (rowPt _ _) (by kernel_rfl)
set_option maxRecDepth 100000 in
set_option maxRecDepth 100000 in
instance cellPt3_1_0 (x0 : Int) (y0 : Int) (x1 : Int) (y1 : Int) (x2 : Int) (y2 : Int) : CellV Try.prog 3 (a3ptc x0 y0 x1 y1 x2 y2) 2 (.int .i64 x1) := ⟨⟨by kernel_rfl⟩, rfl⟩
set_option maxRecDepth 100000 in
@[simp] theorem a3ptc_2 (x0 : Int) (y0 : Int) (x1 : Int) (y1 : Int) (x2 : Int) (y2 : Int) : (a3ptc x0 y0 x1 y1 x2 y2)[2]? = some (.int .i64 x1) := rfl
set_option maxRecDepth 100000 in
set_option maxRecDepth 100000 in
instance cellPt3_1_1 (x0 : Int) (y0 : Int) (x1 : Int) (y1 : Int) (x2 : Int) (y2 : Int) : CellV Try.prog 3 (a3ptc x0 y0 x1 y1 x2 y2) 3 (.int .i64 y1) := ⟨⟨by kernel_rfl⟩, rfl⟩
set_option maxRecDepth 100000 in
@[simp] theorem a3ptc_3 (x0 : Int) (y0 : Int) (x1 : Int) (y1 : Int) (x2 : Int) (y2 : Int) : (a3ptc x0 y0 x1 y1 x2 y2)[3]? = some (.int .i64 y1) := rfl
set_option maxRecDepth 100000 in
set_option maxRecDepth 100000 in
instance partPt3_2 (x0 : Int) (y0 : Int) (x1 : Int) (y1 : Int) (x2 : Int) (y2 : Int) : Part Try.prog 23 (a3ptc x0 y0 x1 y1 x2 y2) 4 (ptc x2 y2) := Part.of (rowPt _ _) (by kernel_rfl)
set_option maxRecDepth 100000 in
set_option maxRecDepth 100000 in
instance cellPt3_2_0 (x0 : Int) (y0 : Int) (x1 : Int) (y1 : Int) (x2 : Int) (y2 : Int) : CellV Try.prog 3 (a3ptc x0 y0 x1 y1 x2 y2) 4 (.int .i64 x2) := ⟨⟨by kernel_rfl⟩, rfl⟩
set_option maxRecDepth 100000 in
@[simp] theorem a3ptc_4 (x0 : Int) (y0 : Int) (x1 : Int) (y1 : Int) (x2 : Int) (y2 : Int) : (a3ptc x0 y0 x1 y1 x2 y2)[4]? = some (.int .i64 x2) := rfl
set_option maxRecDepth 100000 in
set_option maxRecDepth 100000 in
instance cellPt3_2_1 (x0 : Int) (y0 : Int) (x1 : Int) (y1 : Int) (x2 : Int) (y2 : Int) : CellV Try.prog 3 (a3ptc x0 y0 x1 y1 x2 y2) 5 (.int .i64 y2) := ⟨⟨by kernel_rfl⟩, rfl⟩
set_option maxRecDepth 100000 in
@[simp] theorem a3ptc_5 (x0 : Int) (y0 : Int) (x1 : Int) (y1 : Int) (x2 : Int) (y2 : Int) : (a3ptc x0 y0 x1 y1 x2 y2)[5]? = some (.int .i64 y2) := rfl
end Go.Proofs.Ytnbipfoipnaafaa.PtW
