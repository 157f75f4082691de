/-
  Structs by their cells: Meet.
-/
import Derived.Test.YtoahcjjndjdljaaLow6
namespace Go.Proofs.Ytoahcjjndjdljaa.MeW
open Go.RowKit
open KM
open PtW
def mtc (k : Int) (n : Int) (m : Int) (e : Int) (x : Int) (y : Int) (z : Int) (u : Int) : Array Value := #[.int .i64 k, .int .i64 n, .int .i64 m, .int .i64 e, .int .i64 x, .int .i64 y, .int .i64 z, .int .i64 u]
abbrev mtv (k : Int) (n : Int) (m : Int) (e : Int) (x : Int) (y : Int) (z : Int) (u : Int) : Value := .agg (mtc k n m e x y z u)
set_option maxRecDepth 100000 in
theorem mtc_size (k : Int) (n : Int) (m : Int) (e : Int) (x : Int) (y : Int) (z : Int) (u : Int) : (mtc k n m e x y z u).size = 8 := rfl
set_option maxRecDepth 100000 in
theorem rowMeet (k : Int) (n : Int) (m : Int) (e : Int) (x : Int) (y : Int) (z : Int) (u : Int) : Row Try.prog 27 (mtc k n m e x y z u).size := ⟨by kernel_rfl, by kernel_rfl⟩
set_option maxRecDepth 100000 in
instance celMeet (k : Int) (n : Int) (m : Int) (e : Int) (x : Int) (y : Int) (z : Int) (u : Int) : Cel Try.prog 27 (mtc k n m e x y z u) := ⟨rowMeet k n m e x y z u, by kernel_rfl⟩
set_option maxRecDepth 100000 in
@[simp] theorem mtc_0 (k : Int) (n : Int) (m : Int) (e : Int) (x : Int) (y : Int) (z : Int) (u : Int) : (mtc k n m e x y z u)[0]? = some (.int .i64 k) := rfl
set_option maxRecDepth 100000 in
@[simp] theorem mtc_0' (k : Int) (n : Int) (m : Int) (e : Int) (x : Int) (y : Int) (z : Int) (u : Int) (h : 0 < (mtc k n m e x y z u).size) : (mtc k n m e x y z u)[0]'h = .int .i64 k := rfl
set_option maxRecDepth 100000 in
instance cellMeet_0 (k : Int) (n : Int) (m : Int) (e : Int) (x : Int) (y : Int) (z : Int) (u : Int) : CellV Try.prog 3 (mtc k n m e x y z u) 0 (.int .i64 k) := ⟨⟨by kernel_rfl⟩, rfl⟩
set_option maxRecDepth 100000 in
instance putMeet_0 (k : Int) (n : Int) (m : Int) (e : Int) (x : Int) (y : Int) (z : Int) (u : Int) (k₂ : Int) : PutV Try.prog 3 (mtc k n m e x y z u) 0 (.int .i64 k₂) (mtc k₂ n m e x y z u) := ⟨by kernel_rfl, rfl, rfl, by rw [mtc_size]; decide, rfl⟩
set_option maxRecDepth 100000 in
@[simp] theorem mtc_1 (k : Int) (n : Int) (m : Int) (e : Int) (x : Int) (y : Int) (z : Int) (u : Int) : (mtc k n m e x y z u)[1]? = some (.int .i64 n) := rfl
set_option maxRecDepth 100000 in
@[simp] theorem mtc_1' (k : Int) (n : Int) (m : Int) (e : Int) (x : Int) (y : Int) (z : Int) (u : Int) (h : 1 < (mtc k n m e x y z u).size) : (mtc k n m e x y z u)[1]'h = .int .i64 n := rfl
set_option maxRecDepth 100000 in
instance cellMeet_1 (k : Int) (n : Int) (m : Int) (e : Int) (x : Int) (y : Int) (z : Int) (u : Int) : CellV Try.prog 3 (mtc k n m e x y z u) 1 (.int .i64 n) := ⟨⟨by kernel_rfl⟩, rfl⟩
set_option maxRecDepth 100000 in
instance putMeet_1 (k : Int) (n : Int) (m : Int) (e : Int) (x : Int) (y : Int) (z : Int) (u : Int) (n₂ : Int) : PutV Try.prog 3 (mtc k n m e x y z u) 1 (.int .i64 n₂) (mtc k n₂ m e x y z u) := ⟨by kernel_rfl, rfl, rfl, by rw [mtc_size]; decide, rfl⟩
set_option maxRecDepth 100000 in
@[simp] theorem mtc_2 (k : Int) (n : Int) (m : Int) (e : Int) (x : Int) (y : Int) (z : Int) (u : Int) : (mtc k n m e x y z u)[2]? = some (.int .i64 m) := rfl
set_option maxRecDepth 100000 in
@[simp] theorem mtc_2' (k : Int) (n : Int) (m : Int) (e : Int) (x : Int) (y : Int) (z : Int) (u : Int) (h : 2 < (mtc k n m e x y z u).size) : (mtc k n m e x y z u)[2]'h = .int .i64 m := rfl
set_option maxRecDepth 100000 in
instance cellMeet_2 (k : Int) (n : Int) (m : Int) (e : Int) (x : Int) (y : Int) (z : Int) (u : Int) : CellV Try.prog 3 (mtc k n m e x y z u) 2 (.int .i64 m) := ⟨⟨by kernel_rfl⟩, rfl⟩
set_option maxRecDepth 100000 in
instance putMeet_2 (k : Int) (n : Int) (m : Int) (e : Int) (x : Int) (y : Int) (z : Int) (u : Int) (m₂ : Int) : PutV Try.prog 3 (mtc k n m e x y z u) 2 (.int .i64 m₂) (mtc k n m₂ e x y z u) := ⟨by kernel_rfl, rfl, rfl, by rw [mtc_size]; decide, rfl⟩
set_option maxRecDepth 100000 in
@[simp] theorem mtc_3 (k : Int) (n : Int) (m : Int) (e : Int) (x : Int) (y : Int) (z : Int) (u : Int) : (mtc k n m e x y z u)[3]? = some (.int .i64 e) := rfl
set_option maxRecDepth 100000 in
@[simp] theorem mtc_3' (k : Int) (n : Int) (m : Int) (e : Int) (x : Int) (y : Int) (z : Int) (u : Int) (h : 3 < (mtc k n m e x y z u).size) : (mtc k n m e x y z u)[3]'h = .int .i64 e := rfl
set_option maxRecDepth 100000 in
instance cellMeet_3 (k : Int) (n : Int) (m : Int) (e : Int) (x : Int) (y : Int) (z : Int) (u : Int) : CellV Try.prog 3 (mtc k n m e x y z u) 3 (.int .i64 e) := ⟨⟨by kernel_rfl⟩, rfl⟩
set_option maxRecDepth 100000 in
instance putMeet_3 (k : Int) (n : Int) (m : Int) (e : Int) (x : Int) (y : Int) (z : Int) (u : Int) (e₂ : Int) : PutV Try.prog 3 (mtc k n m e x y z u) 3 (.int .i64 e₂) (mtc k n m e₂ x y z u) := ⟨by kernel_rfl, rfl, rfl, by rw [mtc_size]; decide, rfl⟩
set_option maxRecDepth 100000 in
instance partMeet_4Pt (k : Int) (n : Int) (m : Int) (e : Int) (x : Int) (y : Int) (z : Int) (u : Int) : Part Try.prog 23 (mtc k n m e x y z u) 4 (ptc x y) := Part.of (rowPt _ _) (by kernel_rfl)
set_option maxRecDepth 100000 in
instance putMeet_4Pt (k : Int) (n : Int) (m : Int) (e : Int) (x : Int) (y : Int) (z : Int) (u : Int) (x₂ : Int) (y₂ : Int) : PutP Try.prog 23 (mtc k n m e x y z u) 4 (ptc x₂ y₂) (mtc k n m e x₂ y₂ z u) := ⟨rowPt _ _, by kernel_rfl, by rw [ptc_size]; exact (by decide : 4 + 2 ≤ 8), by kernel_rfl⟩
set_option maxRecDepth 100000 in
@[simp] theorem mtc_4 (k : Int) (n : Int) (m : Int) (e : Int) (x : Int) (y : Int) (z : Int) (u : Int) : (mtc k n m e x y z u)[4]? = some (.int .i64 x) := rfl
set_option maxRecDepth 100000 in
@[simp] theorem mtc_4' (k : Int) (n : Int) (m : Int) (e : Int) (x : Int) (y : Int) (z : Int) (u : Int) (h : 4 < (mtc k n m e x y z u).size) : (mtc k n m e x y z u)[4]'h = .int .i64 x := rfl
set_option maxRecDepth 100000 in
instance cellMeet_4 (k : Int) (n : Int) (m : Int) (e : Int) (x : Int) (y : Int) (z : Int) (u : Int) : CellV Try.prog 3 (mtc k n m e x y z u) 4 (.int .i64 x) := ⟨⟨by kernel_rfl⟩, rfl⟩
set_option maxRecDepth 100000 in
instance putMeet_4 (k : Int) (n : Int) (m : Int) (e : Int) (x : Int) (y : Int) (z : Int) (u : Int) (x₂ : Int) : PutV Try.prog 3 (mtc k n m e x y z u) 4 (.int .i64 x₂) (mtc k n m e x₂ y z u) := ⟨by kernel_rfl, rfl, rfl, by rw [mtc_size]; decide, rfl⟩
set_option maxRecDepth 100000 in
@[simp] theorem mtc_5 (k : Int) (n : Int) (m : Int) (e : Int) (x : Int) (y : Int) (z : Int) (u : Int) : (mtc k n m e x y z u)[5]? = some (.int .i64 y) := rfl
set_option maxRecDepth 100000 in
@[simp] theorem mtc_5' (k : Int) (n : Int) (m : Int) (e : Int) (x : Int) (y : Int) (z : Int) (u : Int) (h : 5 < (mtc k n m e x y z u).size) : (mtc k n m e x y z u)[5]'h = .int .i64 y := rfl
set_option maxRecDepth 100000 in
instance cellMeet_5 (k : Int) (n : Int) (m : Int) (e : Int) (x : Int) (y : Int) (z : Int) (u : Int) : CellV Try.prog 3 (mtc k n m e x y z u) 5 (.int .i64 y) := ⟨⟨by kernel_rfl⟩, rfl⟩
set_option maxRecDepth 100000 in
instance putMeet_5 (k : Int) (n : Int) (m : Int) (e : Int) (x : Int) (y : Int) (z : Int) (u : Int) (y₂ : Int) : PutV Try.prog 3 (mtc k n m e x y z u) 5 (.int .i64 y₂) (mtc k n m e x y₂ z u) := ⟨by kernel_rfl, rfl, rfl, by rw [mtc_size]; decide, rfl⟩
set_option maxRecDepth 100000 in
instance partMeet_6Pt (k : Int) (n : Int) (m : Int) (e : Int) (x : Int) (y : Int) (z : Int) (u : Int) : Part Try.prog 23 (mtc k n m e x y z u) 6 (ptc z u) := Part.of (rowPt _ _) (by kernel_rfl)
set_option maxRecDepth 100000 in
instance putMeet_6Pt (k : Int) (n : Int) (m : Int) (e : Int) (x : Int) (y : Int) (z : Int) (u : Int) (z₂ : Int) (u₂ : Int) : PutP Try.prog 23 (mtc k n m e x y z u) 6 (ptc z₂ u₂) (mtc k n m e x y z₂ u₂) := ⟨rowPt _ _, by kernel_rfl, by rw [ptc_size]; exact (by decide : 6 + 2 ≤ 8), by kernel_rfl⟩
set_option maxRecDepth 100000 in
@[simp] theorem mtc_6 (k : Int) (n : Int) (m : Int) (e : Int) (x : Int) (y : Int) (z : Int) (u : Int) : (mtc k n m e x y z u)[6]? = some (.int .i64 z) := rfl
set_option maxRecDepth 100000 in
@[simp] theorem mtc_6' (k : Int) (n : Int) (m : Int) (e : Int) (x : Int) (y : Int) (z : Int) (u : Int) (h : 6 < (mtc k n m e x y z u).size) : (mtc k n m e x y z u)[6]'h = .int .i64 z := rfl
set_option maxRecDepth 100000 in
instance cellMeet_6 (k : Int) (n : Int) (m : Int) (e : Int) (x : Int) (y : Int) (z : Int) (u : Int) : CellV Try.prog 3 (mtc k n m e x y z u) 6 (.int .i64 z) := ⟨⟨by kernel_rfl⟩, rfl⟩
set_option maxRecDepth 100000 in
instance putMeet_6 (k : Int) (n : Int) (m : Int) (e : Int) (x : Int) (y : Int) (z : Int) (u : Int) (z₂ : Int) : PutV Try.prog 3 (mtc k n m e x y z u) 6 (.int .i64 z₂) (mtc k n m e x y z₂ u) := ⟨by kernel_rfl, rfl, rfl, by rw [mtc_size]; decide, rfl⟩
set_option maxRecDepth 100000 in
@[simp] theorem mtc_7 (k : Int) (n : Int) (m : Int) (e : Int) (x : Int) (y : Int) (z : Int) (u : Int) : (mtc k n m e x y z u)[7]? = some (.int .i64 u) := rfl
set_option maxRecDepth 100000 in
@[simp] theorem mtc_7' (k : Int) (n : Int) (m : Int) (e : Int) (x : Int) (y : Int) (z : Int) (u : Int) (h : 7 < (mtc k n m e x y z u).size) : (mtc k n m e x y z u)[7]'h = .int .i64 u := rfl
set_option maxRecDepth 100000 in
instance cellMeet_7 (k : Int) (n : Int) (m : Int) (e : Int) (x : Int) (y : Int) (z : Int) (u : Int) : CellV Try.prog 3 (mtc k n m e x y z u) 7 (.int .i64 u) := ⟨⟨by kernel_rfl⟩, rfl⟩
set_option maxRecDepth 100000 in
instance putMeet_7 (k : Int) (n : Int) (m : Int) (e : Int) (x : Int) (y : Int) (z : Int) (u : Int) (u₂ : Int) : PutV Try.prog 3 (mtc k n m e x y z u) 7 (.int .i64 u₂) (mtc k n m e x y z u₂) := ⟨by kernel_rfl, rfl, rfl, by rw [mtc_size]; decide, rfl⟩
set_option maxRecDepth 100000 in
instance putMeet (k : Int) (n : Int) (m : Int) (e : Int) (x : Int) (y : Int) (z : Int) (u : Int) (k' : Int) (n' : Int) (m' : Int) (e' : Int) (x' : Int) (y' : Int) (z' : Int) (u' : Int) : PutP Try.prog 27 (mtc k n m e x y z u) 0 (mtc k' n' m' e' x' y' z' u') (mtc k' n' m' e' x' y' z' u') := PutP.of inferInstance rfl
set_option maxRecDepth 100000 in
instance zerMeet : ZeroC Try.prog 27 (mtc 0 0 0 0 0 0 0 0) := ⟨by unfold KM.Zero; kernel_rfl⟩
section
variable {ops : Array Oper} {Q : Exit → Act → World → Prop} {rest : List Oper} {a : Act} {w : World} {d₀ : Option Tmp} {ty : TypeId} {ps : String} {af : Array Edge} {gd : Option (Nat × Bool)} {x0 : Operand} {x1 : Operand} {x2 : Operand} {x3 : Operand} {x4 : Operand} {x5 : Operand} {k : Int} {n : Int} {m : Int} {e : Int} {x : Int} {y : Int} {z : Int} {u : Int}
set_option maxRecDepth 100000 in
theorem exec_Meet (h0 : a.eval x0 = .int .i64 k) (h1 : a.eval x1 = .int .i64 n) (h2 : a.eval x2 = .int .i64 m) (h3 : a.eval x3 = .int .i64 e) (h4 : a.eval x4 = .agg (ptc x y)) (h5 : a.eval x5 = .agg (ptc z u)) (w : World) : (execOp a.eval ⟨d₀, .build 27 #[(0, x0), (1, x1), (2, x2), (3, x3), (4, x4), (5, x5)], ty, ps, af, gd⟩).run Try.prog w = .ok (.value (.agg (mtc k n m e x y z u))) w := exec_build (by simp only [List.map_toArray, List.map_cons, List.map_nil, h0, h1, h2, h3, h4, h5]; kernel_rfl) w
set_option maxRecDepth 100000 in
theorem ls_Meet (h0 : a.eval x0 = .int .i64 k) (h1 : a.eval x1 = .int .i64 n) (h2 : a.eval x2 = .int .i64 m) (h3 : a.eval x3 = .int .i64 e) (h4 : a.eval x4 = .agg (ptc x y)) (h5 : a.eval x5 = .agg (ptc z u)) (h : wpList Try.prog ops Q rest (a.put d₀ (.agg (mtc k n m e x y z u))) w) : wpList Try.prog ops Q (⟨d₀, .build 27 #[(0, x0), (1, x1), (2, x2), (3, x3), (4, x4), (5, x5)], ty, ps, af, none⟩ :: rest) a w := ls_value (exec_Meet h0 h1 h2 h3 h4 h5 w) h
set_option maxRecDepth 100000 in
theorem lsg_Meet (hw : Region.wanted ⟨d₀, .build 27 #[(0, x0), (1, x1), (2, x2), (3, x3), (4, x4), (5, x5)], ty, ps, af, gd⟩ (yielded ops a.tmps) = true) (h0 : a.eval x0 = .int .i64 k) (h1 : a.eval x1 = .int .i64 n) (h2 : a.eval x2 = .int .i64 m) (h3 : a.eval x3 = .int .i64 e) (h4 : a.eval x4 = .agg (ptc x y)) (h5 : a.eval x5 = .agg (ptc z u)) (h : wpList Try.prog ops Q rest (a.put d₀ (.agg (mtc k n m e x y z u))) w) : wpList Try.prog ops Q (⟨d₀, .build 27 #[(0, x0), (1, x1), (2, x2), (3, x3), (4, x4), (5, x5)], ty, ps, af, gd⟩ :: rest) a w := lsg_value hw (exec_Meet h0 h1 h2 h3 h4 h5 w) h
set_option maxRecDepth 100000 in
theorem qq_Meet {C : World → Prop} {TQ : Act → Prop} (h0 : a.eval x0 = .int .i64 k) (h1 : a.eval x1 = .int .i64 n) (h2 : a.eval x2 = .int .i64 m) (h3 : a.eval x3 = .int .i64 e) (h4 : a.eval x4 = .agg (ptc x y)) (h5 : a.eval x5 = .agg (ptc z u)) (hw : Region.wanted ⟨d₀, .build 27 #[(0, x0), (1, x1), (2, x2), (3, x3), (4, x4), (5, x5)], ty, ps, af, gd⟩ (yielded ops a.tmps) = true) (h : QQ Try.prog ops C TQ rest (a.put d₀ (.agg (mtc k n m e x y z u)))) : QQ Try.prog ops C TQ (⟨d₀, .build 27 #[(0, x0), (1, x1), (2, x2), (3, x3), (4, x4), (5, x5)], ty, ps, af, gd⟩ :: rest) a := qq_value (fun w => exec_Meet h0 h1 h2 h3 h4 h5 w) hw h
set_option maxRecDepth 100000 in
theorem mm_Meet {W : World} {L Lc : List Ent} {r₀ : List St} (h0 : a.eval x0 = .int .i64 k) (h1 : a.eval x1 = .int .i64 n) (h2 : a.eval x2 = .int .i64 m) (h3 : a.eval x3 = .int .i64 e) (h4 : a.eval x4 = .agg (ptc x y)) (h5 : a.eval x5 = .agg (ptc z u)) (h : MM Try.prog Q W Lc r₀ (a.put d₀ (.agg (mtc k n m e x y z u))) L) : MM Try.prog Q W Lc (.take ⟨d₀, .build 27 #[(0, x0), (1, x1), (2, x2), (3, x3), (4, x4), (5, x5)], ty, ps, af, none⟩ :: r₀) a L := mm_value (fun w => exec_Meet h0 h1 h2 h3 h4 h5 w) h
set_option maxRecDepth 100000 in
theorem exec_Meet_  (w : World) : (execOp a.eval ⟨d₀, .build 27 #[], ty, ps, af, gd⟩).run Try.prog w = .ok (.value (.agg (mtc 0 0 0 0 0 0 0 0))) w := exec_build (by kernel_rfl) w
set_option maxRecDepth 100000 in
theorem ls_Meet_  (h : wpList Try.prog ops Q rest (a.put d₀ (.agg (mtc 0 0 0 0 0 0 0 0))) w) : wpList Try.prog ops Q (⟨d₀, .build 27 #[], ty, ps, af, none⟩ :: rest) a w := ls_value (exec_Meet_  w) h
set_option maxRecDepth 100000 in
theorem lsg_Meet_ (hw : Region.wanted ⟨d₀, .build 27 #[], ty, ps, af, gd⟩ (yielded ops a.tmps) = true)  (h : wpList Try.prog ops Q rest (a.put d₀ (.agg (mtc 0 0 0 0 0 0 0 0))) w) : wpList Try.prog ops Q (⟨d₀, .build 27 #[], ty, ps, af, gd⟩ :: rest) a w := lsg_value hw (exec_Meet_  w) h
set_option maxRecDepth 100000 in
theorem qq_Meet_ {C : World → Prop} {TQ : Act → Prop}  (hw : Region.wanted ⟨d₀, .build 27 #[], ty, ps, af, gd⟩ (yielded ops a.tmps) = true) (h : QQ Try.prog ops C TQ rest (a.put d₀ (.agg (mtc 0 0 0 0 0 0 0 0)))) : QQ Try.prog ops C TQ (⟨d₀, .build 27 #[], ty, ps, af, gd⟩ :: rest) a := qq_value (fun w => exec_Meet_  w) hw h
set_option maxRecDepth 100000 in
theorem mm_Meet_ {W : World} {L Lc : List Ent} {r₀ : List St}  (h : MM Try.prog Q W Lc r₀ (a.put d₀ (.agg (mtc 0 0 0 0 0 0 0 0))) L) : MM Try.prog Q W Lc (.take ⟨d₀, .build 27 #[], ty, ps, af, none⟩ :: r₀) a L := mm_value (fun w => exec_Meet_  w) h
set_option maxRecDepth 100000 in
theorem exec_Meet_045 (h0 : a.eval x0 = .int .i64 k) (h4 : a.eval x4 = .agg (ptc x y)) (h5 : a.eval x5 = .agg (ptc z u)) (w : World) : (execOp a.eval ⟨d₀, .build 27 #[(0, x0), (4, x4), (5, x5)], ty, ps, af, gd⟩).run Try.prog w = .ok (.value (.agg (mtc k 0 0 0 x y z u))) w := exec_build (by simp only [List.map_toArray, List.map_cons, List.map_nil, h0, h4, h5]; kernel_rfl) w
set_option maxRecDepth 100000 in
theorem ls_Meet_045 (h0 : a.eval x0 = .int .i64 k) (h4 : a.eval x4 = .agg (ptc x y)) (h5 : a.eval x5 = .agg (ptc z u)) (h : wpList Try.prog ops Q rest (a.put d₀ (.agg (mtc k 0 0 0 x y z u))) w) : wpList Try.prog ops Q (⟨d₀, .build 27 #[(0, x0), (4, x4), (5, x5)], ty, ps, af, none⟩ :: rest) a w := ls_value (exec_Meet_045 h0 h4 h5 w) h
set_option maxRecDepth 100000 in
theorem lsg_Meet_045 (hw : Region.wanted ⟨d₀, .build 27 #[(0, x0), (4, x4), (5, x5)], ty, ps, af, gd⟩ (yielded ops a.tmps) = true) (h0 : a.eval x0 = .int .i64 k) (h4 : a.eval x4 = .agg (ptc x y)) (h5 : a.eval x5 = .agg (ptc z u)) (h : wpList Try.prog ops Q rest (a.put d₀ (.agg (mtc k 0 0 0 x y z u))) w) : wpList Try.prog ops Q (⟨d₀, .build 27 #[(0, x0), (4, x4), (5, x5)], ty, ps, af, gd⟩ :: rest) a w := lsg_value hw (exec_Meet_045 h0 h4 h5 w) h
set_option maxRecDepth 100000 in
theorem qq_Meet_045 {C : World → Prop} {TQ : Act → Prop} (h0 : a.eval x0 = .int .i64 k) (h4 : a.eval x4 = .agg (ptc x y)) (h5 : a.eval x5 = .agg (ptc z u)) (hw : Region.wanted ⟨d₀, .build 27 #[(0, x0), (4, x4), (5, x5)], ty, ps, af, gd⟩ (yielded ops a.tmps) = true) (h : QQ Try.prog ops C TQ rest (a.put d₀ (.agg (mtc k 0 0 0 x y z u)))) : QQ Try.prog ops C TQ (⟨d₀, .build 27 #[(0, x0), (4, x4), (5, x5)], ty, ps, af, gd⟩ :: rest) a := qq_value (fun w => exec_Meet_045 h0 h4 h5 w) hw h
set_option maxRecDepth 100000 in
theorem mm_Meet_045 {W : World} {L Lc : List Ent} {r₀ : List St} (h0 : a.eval x0 = .int .i64 k) (h4 : a.eval x4 = .agg (ptc x y)) (h5 : a.eval x5 = .agg (ptc z u)) (h : MM Try.prog Q W Lc r₀ (a.put d₀ (.agg (mtc k 0 0 0 x y z u))) L) : MM Try.prog Q W Lc (.take ⟨d₀, .build 27 #[(0, x0), (4, x4), (5, x5)], ty, ps, af, none⟩ :: r₀) a L := mm_value (fun w => exec_Meet_045 h0 h4 h5 w) h
set_option maxRecDepth 100000 in
theorem exec_Meet_03 (h0 : a.eval x0 = .int .i64 k) (h3 : a.eval x3 = .int .i64 e) (w : World) : (execOp a.eval ⟨d₀, .build 27 #[(0, x0), (3, x3)], ty, ps, af, gd⟩).run Try.prog w = .ok (.value (.agg (mtc k 0 0 e 0 0 0 0))) w := exec_build (by simp only [List.map_toArray, List.map_cons, List.map_nil, h0, h3]; kernel_rfl) w
set_option maxRecDepth 100000 in
theorem ls_Meet_03 (h0 : a.eval x0 = .int .i64 k) (h3 : a.eval x3 = .int .i64 e) (h : wpList Try.prog ops Q rest (a.put d₀ (.agg (mtc k 0 0 e 0 0 0 0))) w) : wpList Try.prog ops Q (⟨d₀, .build 27 #[(0, x0), (3, x3)], ty, ps, af, none⟩ :: rest) a w := ls_value (exec_Meet_03 h0 h3 w) h
set_option maxRecDepth 100000 in
theorem lsg_Meet_03 (hw : Region.wanted ⟨d₀, .build 27 #[(0, x0), (3, x3)], ty, ps, af, gd⟩ (yielded ops a.tmps) = true) (h0 : a.eval x0 = .int .i64 k) (h3 : a.eval x3 = .int .i64 e) (h : wpList Try.prog ops Q rest (a.put d₀ (.agg (mtc k 0 0 e 0 0 0 0))) w) : wpList Try.prog ops Q (⟨d₀, .build 27 #[(0, x0), (3, x3)], ty, ps, af, gd⟩ :: rest) a w := lsg_value hw (exec_Meet_03 h0 h3 w) h
set_option maxRecDepth 100000 in
theorem qq_Meet_03 {C : World → Prop} {TQ : Act → Prop} (h0 : a.eval x0 = .int .i64 k) (h3 : a.eval x3 = .int .i64 e) (hw : Region.wanted ⟨d₀, .build 27 #[(0, x0), (3, x3)], ty, ps, af, gd⟩ (yielded ops a.tmps) = true) (h : QQ Try.prog ops C TQ rest (a.put d₀ (.agg (mtc k 0 0 e 0 0 0 0)))) : QQ Try.prog ops C TQ (⟨d₀, .build 27 #[(0, x0), (3, x3)], ty, ps, af, gd⟩ :: rest) a := qq_value (fun w => exec_Meet_03 h0 h3 w) hw h
set_option maxRecDepth 100000 in
theorem mm_Meet_03 {W : World} {L Lc : List Ent} {r₀ : List St} (h0 : a.eval x0 = .int .i64 k) (h3 : a.eval x3 = .int .i64 e) (h : MM Try.prog Q W Lc r₀ (a.put d₀ (.agg (mtc k 0 0 e 0 0 0 0))) L) : MM Try.prog Q W Lc (.take ⟨d₀, .build 27 #[(0, x0), (3, x3)], ty, ps, af, none⟩ :: r₀) a L := mm_value (fun w => exec_Meet_03 h0 h3 w) h
set_option maxRecDepth 100000 in
theorem exec_Meet_0123 (h0 : a.eval x0 = .int .i64 k) (h1 : a.eval x1 = .int .i64 n) (h2 : a.eval x2 = .int .i64 m) (h3 : a.eval x3 = .int .i64 e) (w : World) : (execOp a.eval ⟨d₀, .build 27 #[(0, x0), (1, x1), (2, x2), (3, x3)], ty, ps, af, gd⟩).run Try.prog w = .ok (.value (.agg (mtc k n m e 0 0 0 0))) w := exec_build (by simp only [List.map_toArray, List.map_cons, List.map_nil, h0, h1, h2, h3]; kernel_rfl) w
set_option maxRecDepth 100000 in
theorem ls_Meet_0123 (h0 : a.eval x0 = .int .i64 k) (h1 : a.eval x1 = .int .i64 n) (h2 : a.eval x2 = .int .i64 m) (h3 : a.eval x3 = .int .i64 e) (h : wpList Try.prog ops Q rest (a.put d₀ (.agg (mtc k n m e 0 0 0 0))) w) : wpList Try.prog ops Q (⟨d₀, .build 27 #[(0, x0), (1, x1), (2, x2), (3, x3)], ty, ps, af, none⟩ :: rest) a w := ls_value (exec_Meet_0123 h0 h1 h2 h3 w) h
set_option maxRecDepth 100000 in
theorem lsg_Meet_0123 (hw : Region.wanted ⟨d₀, .build 27 #[(0, x0), (1, x1), (2, x2), (3, x3)], ty, ps, af, gd⟩ (yielded ops a.tmps) = true) (h0 : a.eval x0 = .int .i64 k) (h1 : a.eval x1 = .int .i64 n) (h2 : a.eval x2 = .int .i64 m) (h3 : a.eval x3 = .int .i64 e) (h : wpList Try.prog ops Q rest (a.put d₀ (.agg (mtc k n m e 0 0 0 0))) w) : wpList Try.prog ops Q (⟨d₀, .build 27 #[(0, x0), (1, x1), (2, x2), (3, x3)], ty, ps, af, gd⟩ :: rest) a w := lsg_value hw (exec_Meet_0123 h0 h1 h2 h3 w) h
set_option maxRecDepth 100000 in
theorem qq_Meet_0123 {C : World → Prop} {TQ : Act → Prop} (h0 : a.eval x0 = .int .i64 k) (h1 : a.eval x1 = .int .i64 n) (h2 : a.eval x2 = .int .i64 m) (h3 : a.eval x3 = .int .i64 e) (hw : Region.wanted ⟨d₀, .build 27 #[(0, x0), (1, x1), (2, x2), (3, x3)], ty, ps, af, gd⟩ (yielded ops a.tmps) = true) (h : QQ Try.prog ops C TQ rest (a.put d₀ (.agg (mtc k n m e 0 0 0 0)))) : QQ Try.prog ops C TQ (⟨d₀, .build 27 #[(0, x0), (1, x1), (2, x2), (3, x3)], ty, ps, af, gd⟩ :: rest) a := qq_value (fun w => exec_Meet_0123 h0 h1 h2 h3 w) hw h
set_option maxRecDepth 100000 in
theorem mm_Meet_0123 {W : World} {L Lc : List Ent} {r₀ : List St} (h0 : a.eval x0 = .int .i64 k) (h1 : a.eval x1 = .int .i64 n) (h2 : a.eval x2 = .int .i64 m) (h3 : a.eval x3 = .int .i64 e) (h : MM Try.prog Q W Lc r₀ (a.put d₀ (.agg (mtc k n m e 0 0 0 0))) L) : MM Try.prog Q W Lc (.take ⟨d₀, .build 27 #[(0, x0), (1, x1), (2, x2), (3, x3)], ty, ps, af, none⟩ :: r₀) a L := mm_value (fun w => exec_Meet_0123 h0 h1 h2 h3 w) h
end
set_option maxRecDepth 100000 in
@[simp] theorem fieldMeet_0 (k : Int) (n : Int) (m : Int) (e : Int) (x : Int) (y : Int) (z : Int) (u : Int) (w : World) : (Instr.field 27 (.agg (mtc k n m e x y z u)) 0).run Try.prog w = .ok (.int .i64 k) w := run_field (by kernel_rfl) (tf := 3) (o := 0) (by kernel_rfl) (fun w => run_part_plain w (by kernel_rfl) rfl) w
set_option maxRecDepth 100000 in
@[simp] theorem fieldMeet_1 (k : Int) (n : Int) (m : Int) (e : Int) (x : Int) (y : Int) (z : Int) (u : Int) (w : World) : (Instr.field 27 (.agg (mtc k n m e x y z u)) 1).run Try.prog w = .ok (.int .i64 n) w := run_field (by kernel_rfl) (tf := 3) (o := 1) (by kernel_rfl) (fun w => run_part_plain w (by kernel_rfl) rfl) w
set_option maxRecDepth 100000 in
@[simp] theorem fieldMeet_2 (k : Int) (n : Int) (m : Int) (e : Int) (x : Int) (y : Int) (z : Int) (u : Int) (w : World) : (Instr.field 27 (.agg (mtc k n m e x y z u)) 2).run Try.prog w = .ok (.int .i64 m) w := run_field (by kernel_rfl) (tf := 3) (o := 2) (by kernel_rfl) (fun w => run_part_plain w (by kernel_rfl) rfl) w
set_option maxRecDepth 100000 in
@[simp] theorem fieldMeet_3 (k : Int) (n : Int) (m : Int) (e : Int) (x : Int) (y : Int) (z : Int) (u : Int) (w : World) : (Instr.field 27 (.agg (mtc k n m e x y z u)) 3).run Try.prog w = .ok (.int .i64 e) w := run_field (by kernel_rfl) (tf := 3) (o := 3) (by kernel_rfl) (fun w => run_part_plain w (by kernel_rfl) rfl) w
set_option maxRecDepth 100000 in
@[simp] theorem fieldMeet_4 (k : Int) (n : Int) (m : Int) (e : Int) (x : Int) (y : Int) (z : Int) (u : Int) (w : World) : (Instr.field 27 (.agg (mtc k n m e x y z u)) 4).run Try.prog w = .ok (.agg (ptc x y)) w := run_field (by kernel_rfl) (tf := 23) (o := 4) (by kernel_rfl) (fun w => part_row (by first | exact rowI _ _ | (rw [cells_size]; exact rowW) | exact rowPt _ _) (by kernel_rfl) w) w
set_option maxRecDepth 100000 in
@[simp] theorem fieldMeet_5 (k : Int) (n : Int) (m : Int) (e : Int) (x : Int) (y : Int) (z : Int) (u : Int) (w : World) : (Instr.field 27 (.agg (mtc k n m e x y z u)) 5).run Try.prog w = .ok (.agg (ptc z u)) w := run_field (by kernel_rfl) (tf := 23) (o := 6) (by kernel_rfl) (fun w => part_row (by first | exact rowI _ _ | (rw [cells_size]; exact rowW) | exact rowPt _ _) (by kernel_rfl) w) w
set_option maxRecDepth 100000 in
theorem eqlMeet_d (k₀ : Nat) (k : Int) (n : Int) (m : Int) (e : Int) (x : Int) (y : Int) (z : Int) (u : Int) (k' : Int) (n' : Int) (m' : Int) (e' : Int) (x' : Int) (y' : Int) (z' : Int) (u' : Int)  (w : World) : (Op.equalIn (k₀ + 3) 27 (.agg (mtc k n m e x y z u)) (.agg (mtc k' n' m' e' x' y' z' u'))).run Try.prog w = .ok (k == k' && (n == n' && (m == m' && (e == e' && ((x == x' && y == y') && (z == z' && u == u')))))) w :=
  eqStruct [(3, 0), (3, 1), (3, 2), (3, 3), (23, 4), (23, 6)] [k == k', n == n', m == m', e == e', (x == x' && y == y'), (z == z' && u == u')] (by kernel_rfl) (by kernel_rfl) (by kernel_rfl) ⟨⟨.int .i64 k, .int .i64 k', run_part_plain w (by kernel_rfl) rfl, run_part_plain w (by kernel_rfl) rfl, run_equalIn_int w (k₀ + 1) _ .i64 .i64 _ _ Try.underlying3⟩, ⟨.int .i64 n, .int .i64 n', run_part_plain w (by kernel_rfl) rfl, run_part_plain w (by kernel_rfl) rfl, run_equalIn_int w (k₀ + 1) _ .i64 .i64 _ _ Try.underlying3⟩, ⟨.int .i64 m, .int .i64 m', run_part_plain w (by kernel_rfl) rfl, run_part_plain w (by kernel_rfl) rfl, run_equalIn_int w (k₀ + 1) _ .i64 .i64 _ _ Try.underlying3⟩, ⟨.int .i64 e, .int .i64 e', run_part_plain w (by kernel_rfl) rfl, run_part_plain w (by kernel_rfl) rfl, run_equalIn_int w (k₀ + 1) _ .i64 .i64 _ _ Try.underlying3⟩, ⟨.agg (ptc x y), .agg (ptc x' y'), part_row (by first | exact rowI _ _ | (rw [cells_size]; exact rowW) | exact rowPt _ _) (by kernel_rfl) w, part_row (by first | exact rowI _ _ | (rw [cells_size]; exact rowW) | exact rowPt _ _) (by kernel_rfl) w, eqlPt_d (k₀) x y x' y'  w⟩, ⟨.agg (ptc z u), .agg (ptc z' u'), part_row (by first | exact rowI _ _ | (rw [cells_size]; exact rowW) | exact rowPt _ _) (by kernel_rfl) w, part_row (by first | exact rowI _ _ | (rw [cells_size]; exact rowW) | exact rowPt _ _) (by kernel_rfl) w, eqlPt_d (k₀) z u z' u'  w⟩, trivial⟩
set_option maxRecDepth 100000 in
theorem eqlMeet (k : Int) (n : Int) (m : Int) (e : Int) (x : Int) (y : Int) (z : Int) (u : Int) (k' : Int) (n' : Int) (m' : Int) (e' : Int) (x' : Int) (y' : Int) (z' : Int) (u' : Int)  (w : World) : (Op.equalIn 10000 27 (.agg (mtc k n m e x y z u)) (.agg (mtc k' n' m' e' x' y' z' u'))).run Try.prog w = .ok (k == k' && (n == n' && (m == m' && (e == e' && ((x == x' && y == y') && (z == z' && u == u')))))) w := at_depth (P := fun k => (Op.equalIn k _ _ _).run _ w = _) (show 10000 = 9997 + 3 from rfl) (eqlMeet_d 9997 k n m e x y z u k' n' m' e' x' y' z' u'  w)
set_option maxRecDepth 100000 in
theorem selfMeet_d (k₀ : Nat) (k : Int) (n : Int) (m : Int) (e : Int) (x : Int) (y : Int) (z : Int) (u : Int) (w : World) : (Op.equalIn (k₀ + 3) 27 (.agg (mtc k n m e x y z u)) (.agg (mtc k n m e x y z u))).run Try.prog w = .ok true w :=
  eqStruct [(3, 0), (3, 1), (3, 2), (3, 3), (23, 4), (23, 6)] [true, true, true, true, true, true] (by kernel_rfl) (by kernel_rfl) (by kernel_rfl) ⟨⟨.int .i64 k, .int .i64 k, run_part_plain w (by kernel_rfl) rfl, run_part_plain w (by kernel_rfl) rfl, (run_equalIn_int w (k₀ + 1) _ .i64 .i64 _ _ Try.underlying3).trans (by simp)⟩, ⟨.int .i64 n, .int .i64 n, run_part_plain w (by kernel_rfl) rfl, run_part_plain w (by kernel_rfl) rfl, (run_equalIn_int w (k₀ + 1) _ .i64 .i64 _ _ Try.underlying3).trans (by simp)⟩, ⟨.int .i64 m, .int .i64 m, run_part_plain w (by kernel_rfl) rfl, run_part_plain w (by kernel_rfl) rfl, (run_equalIn_int w (k₀ + 1) _ .i64 .i64 _ _ Try.underlying3).trans (by simp)⟩, ⟨.int .i64 e, .int .i64 e, run_part_plain w (by kernel_rfl) rfl, run_part_plain w (by kernel_rfl) rfl, (run_equalIn_int w (k₀ + 1) _ .i64 .i64 _ _ Try.underlying3).trans (by simp)⟩, ⟨.agg (ptc x y), .agg (ptc x y), part_row (by first | exact rowI _ _ | (rw [cells_size]; exact rowW) | exact rowPt _ _) (by kernel_rfl) w, part_row (by first | exact rowI _ _ | (rw [cells_size]; exact rowW) | exact rowPt _ _) (by kernel_rfl) w, (selfPt_d (k₀) x y w).trans (by simp)⟩, ⟨.agg (ptc z u), .agg (ptc z u), part_row (by first | exact rowI _ _ | (rw [cells_size]; exact rowW) | exact rowPt _ _) (by kernel_rfl) w, part_row (by first | exact rowI _ _ | (rw [cells_size]; exact rowW) | exact rowPt _ _) (by kernel_rfl) w, (selfPt_d (k₀) z u w).trans (by simp)⟩, trivial⟩
set_option maxRecDepth 100000 in
@[simp] theorem selfMeet (k : Int) (n : Int) (m : Int) (e : Int) (x : Int) (y : Int) (z : Int) (u : Int) (w : World) : (Op.equalIn 10000 27 (.agg (mtc k n m e x y z u)) (.agg (mtc k n m e x y z u))).run Try.prog w = .ok true w := at_depth (P := fun k => (Op.equalIn k _ _ _).run _ w = _) (show 10000 = 9997 + 3 from rfl) (selfMeet_d 9997 k n m e x y z u w)
end Go.Proofs.Ytoahcjjndjdljaa.MeW
