/-
  Structs by their cells: Spot.
-/
import Derived.Test.YtacicfmalhhceaaGreatDoorLow5
import Derived.Test.YtacicfmalhhceaaGreatDoorLow6
namespace Go.Proofs.YtacicfmalhhceaaGreatDoor.SpW
open Go.RowKit
open WideM WideV KM WideW SignW
open RatW
def spc (s : Bool) (n : Nat) (t : Bool) (m : Nat) (e : Nat) : Array Value := #[.bool s, .int .u64 (wd n 0 : Nat), .int .u64 (wd n 1 : Nat), .int .u64 (wd n 2 : Nat), .int .u64 (wd n 3 : Nat), .int .u64 (wd n 4 : Nat), .int .u64 (wd n 5 : Nat), .int .u64 (wd n 6 : Nat), .int .u64 (wd n 7 : Nat), .bool t, .int .u64 (wd m 0 : Nat), .int .u64 (wd m 1 : Nat), .int .u64 (wd m 2 : Nat), .int .u64 (wd m 3 : Nat), .int .u64 (wd m 4 : Nat), .int .u64 (wd m 5 : Nat), .int .u64 (wd m 6 : Nat), .int .u64 (wd m 7 : Nat), .int .u64 (wd e 0 : Nat), .int .u64 (wd e 1 : Nat), .int .u64 (wd e 2 : Nat), .int .u64 (wd e 3 : Nat), .int .u64 (wd e 4 : Nat), .int .u64 (wd e 5 : Nat), .int .u64 (wd e 6 : Nat), .int .u64 (wd e 7 : Nat)]
abbrev spv (s : Bool) (n : Nat) (t : Bool) (m : Nat) (e : Nat) : Value := .agg (spc s n t m e)
set_option maxRecDepth 100000 in
theorem spc_size (s : Bool) (n : Nat) (t : Bool) (m : Nat) (e : Nat) : (spc s n t m e).size = 26 := rfl
set_option maxRecDepth 100000 in
theorem rowSpot (s : Bool) (n : Nat) (t : Bool) (m : Nat) (e : Nat) : Row Tryz.prog 28 (spc s n t m e).size := ⟨by kernel_rfl, by kernel_rfl⟩
set_option maxRecDepth 100000 in
instance celSpot (s : Bool) (n : Nat) (t : Bool) (m : Nat) (e : Nat) : Cel Tryz.prog 28 (spc s n t m e) := ⟨rowSpot s n t m e, by kernel_rfl⟩
set_option maxRecDepth 100000 in
instance partSpot_0Int (s : Bool) (n : Nat) (t : Bool) (m : Nat) (e : Nat) : Part Tryz.prog 26 (spc s n t m e) 0 (ic s n) := Part.of (rowI _ _) (by kernel_rfl)
set_option maxRecDepth 100000 in
instance putSpot_0Int (s : Bool) (n : Nat) (t : Bool) (m : Nat) (e : Nat) (s₂ : Bool) (n₂ : Nat) : PutP Tryz.prog 26 (spc s n t m e) 0 (ic s₂ n₂) (spc s₂ n₂ t m e) := ⟨rowI _ _, by kernel_rfl, by rw [ic_size]; exact (by decide : 0 + 9 ≤ 26), by kernel_rfl⟩
set_option maxRecDepth 100000 in
@[simp] theorem spc_0 (s : Bool) (n : Nat) (t : Bool) (m : Nat) (e : Nat) : (spc s n t m e)[0]? = some (.bool s) := rfl
set_option maxRecDepth 100000 in
@[simp] theorem spc_0' (s : Bool) (n : Nat) (t : Bool) (m : Nat) (e : Nat) (h : 0 < (spc s n t m e).size) : (spc s n t m e)[0]'h = .bool s := rfl
set_option maxRecDepth 100000 in
instance cellSpot_0 (s : Bool) (n : Nat) (t : Bool) (m : Nat) (e : Nat) : CellV Tryz.prog 4 (spc s n t m e) 0 (.bool s) := ⟨⟨by kernel_rfl⟩, rfl⟩
set_option maxRecDepth 100000 in
instance putSpot_0 (s : Bool) (n : Nat) (t : Bool) (m : Nat) (e : Nat) (s₂ : Bool) : PutV Tryz.prog 4 (spc s n t m e) 0 (.bool s₂) (spc s₂ n t m e) := ⟨by kernel_rfl, rfl, rfl, by rw [spc_size]; decide, rfl⟩
set_option maxRecDepth 100000 in
instance partSpot_1Wide (s : Bool) (n : Nat) (t : Bool) (m : Nat) (e : Nat) : Part Tryz.prog 24 (spc s n t m e) 1 (cells 8 n) := Part.of (by rw [cells_size]; exact rowW) (by kernel_rfl)
set_option maxRecDepth 100000 in
instance putSpot_1Wide (s : Bool) (n : Nat) (t : Bool) (m : Nat) (e : Nat) (n₂ : Nat) : PutP Tryz.prog 24 (spc s n t m e) 1 (cells 8 n₂) (spc s n₂ t m e) := ⟨by rw [cells_size]; exact rowW, cells_one _ _, by rw [cells_size]; exact (by decide : 1 + 8 ≤ 26), by kernel_rfl⟩
set_option maxRecDepth 100000 in
instance partSpot_9Int (s : Bool) (n : Nat) (t : Bool) (m : Nat) (e : Nat) : Part Tryz.prog 26 (spc s n t m e) 9 (ic t m) := Part.of (rowI _ _) (by kernel_rfl)
set_option maxRecDepth 100000 in
instance putSpot_9Int (s : Bool) (n : Nat) (t : Bool) (m : Nat) (e : Nat) (t₂ : Bool) (m₂ : Nat) : PutP Tryz.prog 26 (spc s n t m e) 9 (ic t₂ m₂) (spc s n t₂ m₂ e) := ⟨rowI _ _, by kernel_rfl, by rw [ic_size]; exact (by decide : 9 + 9 ≤ 26), by kernel_rfl⟩
set_option maxRecDepth 100000 in
@[simp] theorem spc_9 (s : Bool) (n : Nat) (t : Bool) (m : Nat) (e : Nat) : (spc s n t m e)[9]? = some (.bool t) := rfl
set_option maxRecDepth 100000 in
@[simp] theorem spc_9' (s : Bool) (n : Nat) (t : Bool) (m : Nat) (e : Nat) (h : 9 < (spc s n t m e).size) : (spc s n t m e)[9]'h = .bool t := rfl
set_option maxRecDepth 100000 in
instance cellSpot_9 (s : Bool) (n : Nat) (t : Bool) (m : Nat) (e : Nat) : CellV Tryz.prog 4 (spc s n t m e) 9 (.bool t) := ⟨⟨by kernel_rfl⟩, rfl⟩
set_option maxRecDepth 100000 in
instance putSpot_9 (s : Bool) (n : Nat) (t : Bool) (m : Nat) (e : Nat) (t₂ : Bool) : PutV Tryz.prog 4 (spc s n t m e) 9 (.bool t₂) (spc s n t₂ m e) := ⟨by kernel_rfl, rfl, rfl, by rw [spc_size]; decide, rfl⟩
set_option maxRecDepth 100000 in
instance partSpot_10Wide (s : Bool) (n : Nat) (t : Bool) (m : Nat) (e : Nat) : Part Tryz.prog 24 (spc s n t m e) 10 (cells 8 m) := Part.of (by rw [cells_size]; exact rowW) (by kernel_rfl)
set_option maxRecDepth 100000 in
instance putSpot_10Wide (s : Bool) (n : Nat) (t : Bool) (m : Nat) (e : Nat) (m₂ : Nat) : PutP Tryz.prog 24 (spc s n t m e) 10 (cells 8 m₂) (spc s n t m₂ e) := ⟨by rw [cells_size]; exact rowW, cells_one _ _, by rw [cells_size]; exact (by decide : 10 + 8 ≤ 26), by kernel_rfl⟩
set_option maxRecDepth 100000 in
instance partSpot_18Wide (s : Bool) (n : Nat) (t : Bool) (m : Nat) (e : Nat) : Part Tryz.prog 24 (spc s n t m e) 18 (cells 8 e) := Part.of (by rw [cells_size]; exact rowW) (by kernel_rfl)
set_option maxRecDepth 100000 in
instance putSpot_18Wide (s : Bool) (n : Nat) (t : Bool) (m : Nat) (e : Nat) (e₂ : Nat) : PutP Tryz.prog 24 (spc s n t m e) 18 (cells 8 e₂) (spc s n t m e₂) := ⟨by rw [cells_size]; exact rowW, cells_one _ _, by rw [cells_size]; exact (by decide : 18 + 8 ≤ 26), by kernel_rfl⟩
set_option maxRecDepth 100000 in
instance putSpot (s : Bool) (n : Nat) (t : Bool) (m : Nat) (e : Nat) (s' : Bool) (n' : Nat) (t' : Bool) (m' : Nat) (e' : Nat) : PutP Tryz.prog 28 (spc s n t m e) 0 (spc s' n' t' m' e') (spc s' n' t' m' e') := PutP.of inferInstance rfl
set_option maxRecDepth 100000 in
instance zerSpot : ZeroC Tryz.prog 28 (spc false 0 false 0 0) := ⟨by unfold KM.Zero; kernel_rfl⟩
section
variable {ops : Array Oper} {Q : Exit → Act → World → Prop} {rest : List Oper} {a : Act} {w : World} {d₀ : Option Tmp} {ty : TypeId} {ps : String} {af : Array Edge} {gd : Option (Nat × Bool)} {x0 : Operand} {x1 : Operand} {x2 : Operand} {s : Bool} {n : Nat} {t : Bool} {m : Nat} {e : Nat}
set_option maxRecDepth 100000 in
theorem exec_Spot_  (w : World) : (execOp a.eval ⟨d₀, .build 28 #[], ty, ps, af, gd⟩).run Tryz.prog w = .ok (.value (.agg (spc false 0 false 0 0))) w := exec_build (by kernel_rfl) w
set_option maxRecDepth 100000 in
theorem ls_Spot_  (h : wpList Tryz.prog ops Q rest (a.put d₀ (.agg (spc false 0 false 0 0))) w) : wpList Tryz.prog ops Q (⟨d₀, .build 28 #[], ty, ps, af, none⟩ :: rest) a w := ls_value (exec_Spot_  w) h
set_option maxRecDepth 100000 in
theorem lsg_Spot_ (hw : Region.wanted ⟨d₀, .build 28 #[], ty, ps, af, gd⟩ (yielded ops a.tmps) = true)  (h : wpList Tryz.prog ops Q rest (a.put d₀ (.agg (spc false 0 false 0 0))) w) : wpList Tryz.prog ops Q (⟨d₀, .build 28 #[], ty, ps, af, gd⟩ :: rest) a w := lsg_value hw (exec_Spot_  w) h
set_option maxRecDepth 100000 in
theorem qq_Spot_ {C : World → Prop} {TQ : Act → Prop}  (hw : Region.wanted ⟨d₀, .build 28 #[], ty, ps, af, gd⟩ (yielded ops a.tmps) = true) (h : QQ Tryz.prog ops C TQ rest (a.put d₀ (.agg (spc false 0 false 0 0)))) : QQ Tryz.prog ops C TQ (⟨d₀, .build 28 #[], ty, ps, af, gd⟩ :: rest) a := qq_value (fun w => exec_Spot_  w) hw h
set_option maxRecDepth 100000 in
theorem mm_Spot_ {W : World} {L Lc : List Ent} {r₀ : List St}  (h : MM Tryz.prog Q W Lc r₀ (a.put d₀ (.agg (spc false 0 false 0 0))) L) : MM Tryz.prog Q W Lc (.take ⟨d₀, .build 28 #[], ty, ps, af, none⟩ :: r₀) a L := mm_value (fun w => exec_Spot_  w) h
set_option maxRecDepth 100000 in
theorem exec_Spot_0 (h0 : a.eval x0 = .agg (ic s n)) (w : World) : (execOp a.eval ⟨d₀, .build 28 #[(0, x0)], ty, ps, af, gd⟩).run Tryz.prog w = .ok (.value (.agg (spc s n false 0 0))) w := exec_build (by simp only [List.map_toArray, List.map_cons, List.map_nil, h0]; kernel_rfl) w
set_option maxRecDepth 100000 in
theorem ls_Spot_0 (h0 : a.eval x0 = .agg (ic s n)) (h : wpList Tryz.prog ops Q rest (a.put d₀ (.agg (spc s n false 0 0))) w) : wpList Tryz.prog ops Q (⟨d₀, .build 28 #[(0, x0)], ty, ps, af, none⟩ :: rest) a w := ls_value (exec_Spot_0 h0 w) h
set_option maxRecDepth 100000 in
theorem lsg_Spot_0 (hw : Region.wanted ⟨d₀, .build 28 #[(0, x0)], ty, ps, af, gd⟩ (yielded ops a.tmps) = true) (h0 : a.eval x0 = .agg (ic s n)) (h : wpList Tryz.prog ops Q rest (a.put d₀ (.agg (spc s n false 0 0))) w) : wpList Tryz.prog ops Q (⟨d₀, .build 28 #[(0, x0)], ty, ps, af, gd⟩ :: rest) a w := lsg_value hw (exec_Spot_0 h0 w) h
set_option maxRecDepth 100000 in
theorem qq_Spot_0 {C : World → Prop} {TQ : Act → Prop} (h0 : a.eval x0 = .agg (ic s n)) (hw : Region.wanted ⟨d₀, .build 28 #[(0, x0)], ty, ps, af, gd⟩ (yielded ops a.tmps) = true) (h : QQ Tryz.prog ops C TQ rest (a.put d₀ (.agg (spc s n false 0 0)))) : QQ Tryz.prog ops C TQ (⟨d₀, .build 28 #[(0, x0)], ty, ps, af, gd⟩ :: rest) a := qq_value (fun w => exec_Spot_0 h0 w) hw h
set_option maxRecDepth 100000 in
theorem mm_Spot_0 {W : World} {L Lc : List Ent} {r₀ : List St} (h0 : a.eval x0 = .agg (ic s n)) (h : MM Tryz.prog Q W Lc r₀ (a.put d₀ (.agg (spc s n false 0 0))) L) : MM Tryz.prog Q W Lc (.take ⟨d₀, .build 28 #[(0, x0)], ty, ps, af, none⟩ :: r₀) a L := mm_value (fun w => exec_Spot_0 h0 w) h
set_option maxRecDepth 100000 in
theorem exec_Spot_1 (h1 : a.eval x1 = .agg (ic t m)) (w : World) : (execOp a.eval ⟨d₀, .build 28 #[(1, x1)], ty, ps, af, gd⟩).run Tryz.prog w = .ok (.value (.agg (spc false 0 t m 0))) w := exec_build (by simp only [List.map_toArray, List.map_cons, List.map_nil, h1]; kernel_rfl) w
set_option maxRecDepth 100000 in
theorem ls_Spot_1 (h1 : a.eval x1 = .agg (ic t m)) (h : wpList Tryz.prog ops Q rest (a.put d₀ (.agg (spc false 0 t m 0))) w) : wpList Tryz.prog ops Q (⟨d₀, .build 28 #[(1, x1)], ty, ps, af, none⟩ :: rest) a w := ls_value (exec_Spot_1 h1 w) h
set_option maxRecDepth 100000 in
theorem lsg_Spot_1 (hw : Region.wanted ⟨d₀, .build 28 #[(1, x1)], ty, ps, af, gd⟩ (yielded ops a.tmps) = true) (h1 : a.eval x1 = .agg (ic t m)) (h : wpList Tryz.prog ops Q rest (a.put d₀ (.agg (spc false 0 t m 0))) w) : wpList Tryz.prog ops Q (⟨d₀, .build 28 #[(1, x1)], ty, ps, af, gd⟩ :: rest) a w := lsg_value hw (exec_Spot_1 h1 w) h
set_option maxRecDepth 100000 in
theorem qq_Spot_1 {C : World → Prop} {TQ : Act → Prop} (h1 : a.eval x1 = .agg (ic t m)) (hw : Region.wanted ⟨d₀, .build 28 #[(1, x1)], ty, ps, af, gd⟩ (yielded ops a.tmps) = true) (h : QQ Tryz.prog ops C TQ rest (a.put d₀ (.agg (spc false 0 t m 0)))) : QQ Tryz.prog ops C TQ (⟨d₀, .build 28 #[(1, x1)], ty, ps, af, gd⟩ :: rest) a := qq_value (fun w => exec_Spot_1 h1 w) hw h
set_option maxRecDepth 100000 in
theorem mm_Spot_1 {W : World} {L Lc : List Ent} {r₀ : List St} (h1 : a.eval x1 = .agg (ic t m)) (h : MM Tryz.prog Q W Lc r₀ (a.put d₀ (.agg (spc false 0 t m 0))) L) : MM Tryz.prog Q W Lc (.take ⟨d₀, .build 28 #[(1, x1)], ty, ps, af, none⟩ :: r₀) a L := mm_value (fun w => exec_Spot_1 h1 w) h
set_option maxRecDepth 100000 in
theorem exec_Spot_2 (h2 : a.eval x2 = .agg (cells 8 e)) (w : World) : (execOp a.eval ⟨d₀, .build 28 #[(2, x2)], ty, ps, af, gd⟩).run Tryz.prog w = .ok (.value (.agg (spc false 0 false 0 e))) w := exec_build (by simp only [List.map_toArray, List.map_cons, List.map_nil, h2]; kernel_rfl) w
set_option maxRecDepth 100000 in
theorem ls_Spot_2 (h2 : a.eval x2 = .agg (cells 8 e)) (h : wpList Tryz.prog ops Q rest (a.put d₀ (.agg (spc false 0 false 0 e))) w) : wpList Tryz.prog ops Q (⟨d₀, .build 28 #[(2, x2)], ty, ps, af, none⟩ :: rest) a w := ls_value (exec_Spot_2 h2 w) h
set_option maxRecDepth 100000 in
theorem lsg_Spot_2 (hw : Region.wanted ⟨d₀, .build 28 #[(2, x2)], ty, ps, af, gd⟩ (yielded ops a.tmps) = true) (h2 : a.eval x2 = .agg (cells 8 e)) (h : wpList Tryz.prog ops Q rest (a.put d₀ (.agg (spc false 0 false 0 e))) w) : wpList Tryz.prog ops Q (⟨d₀, .build 28 #[(2, x2)], ty, ps, af, gd⟩ :: rest) a w := lsg_value hw (exec_Spot_2 h2 w) h
set_option maxRecDepth 100000 in
theorem qq_Spot_2 {C : World → Prop} {TQ : Act → Prop} (h2 : a.eval x2 = .agg (cells 8 e)) (hw : Region.wanted ⟨d₀, .build 28 #[(2, x2)], ty, ps, af, gd⟩ (yielded ops a.tmps) = true) (h : QQ Tryz.prog ops C TQ rest (a.put d₀ (.agg (spc false 0 false 0 e)))) : QQ Tryz.prog ops C TQ (⟨d₀, .build 28 #[(2, x2)], ty, ps, af, gd⟩ :: rest) a := qq_value (fun w => exec_Spot_2 h2 w) hw h
set_option maxRecDepth 100000 in
theorem mm_Spot_2 {W : World} {L Lc : List Ent} {r₀ : List St} (h2 : a.eval x2 = .agg (cells 8 e)) (h : MM Tryz.prog Q W Lc r₀ (a.put d₀ (.agg (spc false 0 false 0 e))) L) : MM Tryz.prog Q W Lc (.take ⟨d₀, .build 28 #[(2, x2)], ty, ps, af, none⟩ :: r₀) a L := mm_value (fun w => exec_Spot_2 h2 w) h
set_option maxRecDepth 100000 in
theorem exec_Spot_01 (h0 : a.eval x0 = .agg (ic s n)) (h1 : a.eval x1 = .agg (ic t m)) (w : World) : (execOp a.eval ⟨d₀, .build 28 #[(0, x0), (1, x1)], ty, ps, af, gd⟩).run Tryz.prog w = .ok (.value (.agg (spc s n t m 0))) w := exec_build (by simp only [List.map_toArray, List.map_cons, List.map_nil, h0, h1]; kernel_rfl) w
set_option maxRecDepth 100000 in
theorem ls_Spot_01 (h0 : a.eval x0 = .agg (ic s n)) (h1 : a.eval x1 = .agg (ic t m)) (h : wpList Tryz.prog ops Q rest (a.put d₀ (.agg (spc s n t m 0))) w) : wpList Tryz.prog ops Q (⟨d₀, .build 28 #[(0, x0), (1, x1)], ty, ps, af, none⟩ :: rest) a w := ls_value (exec_Spot_01 h0 h1 w) h
set_option maxRecDepth 100000 in
theorem lsg_Spot_01 (hw : Region.wanted ⟨d₀, .build 28 #[(0, x0), (1, x1)], ty, ps, af, gd⟩ (yielded ops a.tmps) = true) (h0 : a.eval x0 = .agg (ic s n)) (h1 : a.eval x1 = .agg (ic t m)) (h : wpList Tryz.prog ops Q rest (a.put d₀ (.agg (spc s n t m 0))) w) : wpList Tryz.prog ops Q (⟨d₀, .build 28 #[(0, x0), (1, x1)], ty, ps, af, gd⟩ :: rest) a w := lsg_value hw (exec_Spot_01 h0 h1 w) h
set_option maxRecDepth 100000 in
theorem qq_Spot_01 {C : World → Prop} {TQ : Act → Prop} (h0 : a.eval x0 = .agg (ic s n)) (h1 : a.eval x1 = .agg (ic t m)) (hw : Region.wanted ⟨d₀, .build 28 #[(0, x0), (1, x1)], ty, ps, af, gd⟩ (yielded ops a.tmps) = true) (h : QQ Tryz.prog ops C TQ rest (a.put d₀ (.agg (spc s n t m 0)))) : QQ Tryz.prog ops C TQ (⟨d₀, .build 28 #[(0, x0), (1, x1)], ty, ps, af, gd⟩ :: rest) a := qq_value (fun w => exec_Spot_01 h0 h1 w) hw h
set_option maxRecDepth 100000 in
theorem mm_Spot_01 {W : World} {L Lc : List Ent} {r₀ : List St} (h0 : a.eval x0 = .agg (ic s n)) (h1 : a.eval x1 = .agg (ic t m)) (h : MM Tryz.prog Q W Lc r₀ (a.put d₀ (.agg (spc s n t m 0))) L) : MM Tryz.prog Q W Lc (.take ⟨d₀, .build 28 #[(0, x0), (1, x1)], ty, ps, af, none⟩ :: r₀) a L := mm_value (fun w => exec_Spot_01 h0 h1 w) h
set_option maxRecDepth 100000 in
theorem exec_Spot_02 (h0 : a.eval x0 = .agg (ic s n)) (h2 : a.eval x2 = .agg (cells 8 e)) (w : World) : (execOp a.eval ⟨d₀, .build 28 #[(0, x0), (2, x2)], ty, ps, af, gd⟩).run Tryz.prog w = .ok (.value (.agg (spc s n false 0 e))) w := exec_build (by simp only [List.map_toArray, List.map_cons, List.map_nil, h0, h2]; kernel_rfl) w
set_option maxRecDepth 100000 in
theorem ls_Spot_02 (h0 : a.eval x0 = .agg (ic s n)) (h2 : a.eval x2 = .agg (cells 8 e)) (h : wpList Tryz.prog ops Q rest (a.put d₀ (.agg (spc s n false 0 e))) w) : wpList Tryz.prog ops Q (⟨d₀, .build 28 #[(0, x0), (2, x2)], ty, ps, af, none⟩ :: rest) a w := ls_value (exec_Spot_02 h0 h2 w) h
set_option maxRecDepth 100000 in
theorem lsg_Spot_02 (hw : Region.wanted ⟨d₀, .build 28 #[(0, x0), (2, x2)], ty, ps, af, gd⟩ (yielded ops a.tmps) = true) (h0 : a.eval x0 = .agg (ic s n)) (h2 : a.eval x2 = .agg (cells 8 e)) (h : wpList Tryz.prog ops Q rest (a.put d₀ (.agg (spc s n false 0 e))) w) : wpList Tryz.prog ops Q (⟨d₀, .build 28 #[(0, x0), (2, x2)], ty, ps, af, gd⟩ :: rest) a w := lsg_value hw (exec_Spot_02 h0 h2 w) h
set_option maxRecDepth 100000 in
theorem qq_Spot_02 {C : World → Prop} {TQ : Act → Prop} (h0 : a.eval x0 = .agg (ic s n)) (h2 : a.eval x2 = .agg (cells 8 e)) (hw : Region.wanted ⟨d₀, .build 28 #[(0, x0), (2, x2)], ty, ps, af, gd⟩ (yielded ops a.tmps) = true) (h : QQ Tryz.prog ops C TQ rest (a.put d₀ (.agg (spc s n false 0 e)))) : QQ Tryz.prog ops C TQ (⟨d₀, .build 28 #[(0, x0), (2, x2)], ty, ps, af, gd⟩ :: rest) a := qq_value (fun w => exec_Spot_02 h0 h2 w) hw h
set_option maxRecDepth 100000 in
theorem mm_Spot_02 {W : World} {L Lc : List Ent} {r₀ : List St} (h0 : a.eval x0 = .agg (ic s n)) (h2 : a.eval x2 = .agg (cells 8 e)) (h : MM Tryz.prog Q W Lc r₀ (a.put d₀ (.agg (spc s n false 0 e))) L) : MM Tryz.prog Q W Lc (.take ⟨d₀, .build 28 #[(0, x0), (2, x2)], ty, ps, af, none⟩ :: r₀) a L := mm_value (fun w => exec_Spot_02 h0 h2 w) h
set_option maxRecDepth 100000 in
theorem exec_Spot_12 (h1 : a.eval x1 = .agg (ic t m)) (h2 : a.eval x2 = .agg (cells 8 e)) (w : World) : (execOp a.eval ⟨d₀, .build 28 #[(1, x1), (2, x2)], ty, ps, af, gd⟩).run Tryz.prog w = .ok (.value (.agg (spc false 0 t m e))) w := exec_build (by simp only [List.map_toArray, List.map_cons, List.map_nil, h1, h2]; kernel_rfl) w
set_option maxRecDepth 100000 in
theorem ls_Spot_12 (h1 : a.eval x1 = .agg (ic t m)) (h2 : a.eval x2 = .agg (cells 8 e)) (h : wpList Tryz.prog ops Q rest (a.put d₀ (.agg (spc false 0 t m e))) w) : wpList Tryz.prog ops Q (⟨d₀, .build 28 #[(1, x1), (2, x2)], ty, ps, af, none⟩ :: rest) a w := ls_value (exec_Spot_12 h1 h2 w) h
set_option maxRecDepth 100000 in
theorem lsg_Spot_12 (hw : Region.wanted ⟨d₀, .build 28 #[(1, x1), (2, x2)], ty, ps, af, gd⟩ (yielded ops a.tmps) = true) (h1 : a.eval x1 = .agg (ic t m)) (h2 : a.eval x2 = .agg (cells 8 e)) (h : wpList Tryz.prog ops Q rest (a.put d₀ (.agg (spc false 0 t m e))) w) : wpList Tryz.prog ops Q (⟨d₀, .build 28 #[(1, x1), (2, x2)], ty, ps, af, gd⟩ :: rest) a w := lsg_value hw (exec_Spot_12 h1 h2 w) h
set_option maxRecDepth 100000 in
theorem qq_Spot_12 {C : World → Prop} {TQ : Act → Prop} (h1 : a.eval x1 = .agg (ic t m)) (h2 : a.eval x2 = .agg (cells 8 e)) (hw : Region.wanted ⟨d₀, .build 28 #[(1, x1), (2, x2)], ty, ps, af, gd⟩ (yielded ops a.tmps) = true) (h : QQ Tryz.prog ops C TQ rest (a.put d₀ (.agg (spc false 0 t m e)))) : QQ Tryz.prog ops C TQ (⟨d₀, .build 28 #[(1, x1), (2, x2)], ty, ps, af, gd⟩ :: rest) a := qq_value (fun w => exec_Spot_12 h1 h2 w) hw h
set_option maxRecDepth 100000 in
theorem mm_Spot_12 {W : World} {L Lc : List Ent} {r₀ : List St} (h1 : a.eval x1 = .agg (ic t m)) (h2 : a.eval x2 = .agg (cells 8 e)) (h : MM Tryz.prog Q W Lc r₀ (a.put d₀ (.agg (spc false 0 t m e))) L) : MM Tryz.prog Q W Lc (.take ⟨d₀, .build 28 #[(1, x1), (2, x2)], ty, ps, af, none⟩ :: r₀) a L := mm_value (fun w => exec_Spot_12 h1 h2 w) h
set_option maxRecDepth 100000 in
theorem exec_Spot (h0 : a.eval x0 = .agg (ic s n)) (h1 : a.eval x1 = .agg (ic t m)) (h2 : a.eval x2 = .agg (cells 8 e)) (w : World) : (execOp a.eval ⟨d₀, .build 28 #[(0, x0), (1, x1), (2, x2)], ty, ps, af, gd⟩).run Tryz.prog w = .ok (.value (.agg (spc s n t m e))) w := exec_build (by simp only [List.map_toArray, List.map_cons, List.map_nil, h0, h1, h2]; kernel_rfl) w
set_option maxRecDepth 100000 in
theorem ls_Spot (h0 : a.eval x0 = .agg (ic s n)) (h1 : a.eval x1 = .agg (ic t m)) (h2 : a.eval x2 = .agg (cells 8 e)) (h : wpList Tryz.prog ops Q rest (a.put d₀ (.agg (spc s n t m e))) w) : wpList Tryz.prog ops Q (⟨d₀, .build 28 #[(0, x0), (1, x1), (2, x2)], ty, ps, af, none⟩ :: rest) a w := ls_value (exec_Spot h0 h1 h2 w) h
set_option maxRecDepth 100000 in
theorem lsg_Spot (hw : Region.wanted ⟨d₀, .build 28 #[(0, x0), (1, x1), (2, x2)], ty, ps, af, gd⟩ (yielded ops a.tmps) = true) (h0 : a.eval x0 = .agg (ic s n)) (h1 : a.eval x1 = .agg (ic t m)) (h2 : a.eval x2 = .agg (cells 8 e)) (h : wpList Tryz.prog ops Q rest (a.put d₀ (.agg (spc s n t m e))) w) : wpList Tryz.prog ops Q (⟨d₀, .build 28 #[(0, x0), (1, x1), (2, x2)], ty, ps, af, gd⟩ :: rest) a w := lsg_value hw (exec_Spot h0 h1 h2 w) h
set_option maxRecDepth 100000 in
theorem qq_Spot {C : World → Prop} {TQ : Act → Prop} (h0 : a.eval x0 = .agg (ic s n)) (h1 : a.eval x1 = .agg (ic t m)) (h2 : a.eval x2 = .agg (cells 8 e)) (hw : Region.wanted ⟨d₀, .build 28 #[(0, x0), (1, x1), (2, x2)], ty, ps, af, gd⟩ (yielded ops a.tmps) = true) (h : QQ Tryz.prog ops C TQ rest (a.put d₀ (.agg (spc s n t m e)))) : QQ Tryz.prog ops C TQ (⟨d₀, .build 28 #[(0, x0), (1, x1), (2, x2)], ty, ps, af, gd⟩ :: rest) a := qq_value (fun w => exec_Spot h0 h1 h2 w) hw h
set_option maxRecDepth 100000 in
theorem mm_Spot {W : World} {L Lc : List Ent} {r₀ : List St} (h0 : a.eval x0 = .agg (ic s n)) (h1 : a.eval x1 = .agg (ic t m)) (h2 : a.eval x2 = .agg (cells 8 e)) (h : MM Tryz.prog Q W Lc r₀ (a.put d₀ (.agg (spc s n t m e))) L) : MM Tryz.prog Q W Lc (.take ⟨d₀, .build 28 #[(0, x0), (1, x1), (2, x2)], ty, ps, af, none⟩ :: r₀) a L := mm_value (fun w => exec_Spot h0 h1 h2 w) h
end
set_option maxRecDepth 100000 in
@[simp] theorem fieldSpot_0 (s : Bool) (n : Nat) (t : Bool) (m : Nat) (e : Nat) (w : World) : (Instr.field 28 (.agg (spc s n t m e)) 0).run Tryz.prog w = .ok (.agg (ic s n)) w := run_field (by kernel_rfl) (tf := 26) (o := 0) (by kernel_rfl) (fun w => part_row (by first | exact rowI _ _ | (rw [cells_size]; exact rowW)) (by kernel_rfl) w) w
set_option maxRecDepth 100000 in
@[simp] theorem fieldSpot_1 (s : Bool) (n : Nat) (t : Bool) (m : Nat) (e : Nat) (w : World) : (Instr.field 28 (.agg (spc s n t m e)) 1).run Tryz.prog w = .ok (.agg (ic t m)) w := run_field (by kernel_rfl) (tf := 26) (o := 9) (by kernel_rfl) (fun w => part_row (by first | exact rowI _ _ | (rw [cells_size]; exact rowW)) (by kernel_rfl) w) w
set_option maxRecDepth 100000 in
@[simp] theorem fieldSpot_2 (s : Bool) (n : Nat) (t : Bool) (m : Nat) (e : Nat) (w : World) : (Instr.field 28 (.agg (spc s n t m e)) 2).run Tryz.prog w = .ok (.agg (cells 8 e)) w := run_field (by kernel_rfl) (tf := 24) (o := 18) (by kernel_rfl) (fun w => part_row (by first | exact rowI _ _ | (rw [cells_size]; exact rowW)) (by kernel_rfl) w) w
set_option maxRecDepth 100000 in
theorem eqlSpot_d (k₀ : Nat) (s : Bool) (n : Nat) (t : Bool) (m : Nat) (e : Nat) (s' : Bool) (n' : Nat) (t' : Bool) (m' : Nat) (e' : Nat) (hn : n < M) (hm : m < M) (he : e < M) (hn' : n' < M) (hm' : m' < M) (he' : e' < M) (w : World) : (Op.equalIn (k₀ + 4) 28 (.agg (spc s n t m e)) (.agg (spc s' n' t' m' e'))).run Tryz.prog w = .ok ((s == s' && eqB n n') && ((t == t' && eqB m m') && eqB e e')) w :=
  eqStruct [(26, 0), (26, 9), (24, 18)] [(s == s' && eqB n n'), (t == t' && eqB m m'), eqB e e'] (by kernel_rfl) (by kernel_rfl) (by kernel_rfl) ⟨⟨.agg (ic s n), .agg (ic s' n'), part_row (by first | exact rowI _ _ | (rw [cells_size]; exact rowW)) (by kernel_rfl) w, part_row (by first | exact rowI _ _ | (rw [cells_size]; exact rowW)) (by kernel_rfl) w, eqlI_d (k₀) s n s' n' hn hn' w⟩, ⟨.agg (ic t m), .agg (ic t' m'), part_row (by first | exact rowI _ _ | (rw [cells_size]; exact rowW)) (by kernel_rfl) w, part_row (by first | exact rowI _ _ | (rw [cells_size]; exact rowW)) (by kernel_rfl) w, eqlI_d (k₀) t m t' m' hm hm' w⟩, ⟨.agg (cells 8 e), .agg (cells 8 e'), part_row (by first | exact rowI _ _ | (rw [cells_size]; exact rowW)) (by kernel_rfl) w, part_row (by first | exact rowI _ _ | (rw [cells_size]; exact rowW)) (by kernel_rfl) w, eqlW_d (k₀ + 1) _ _ he he' w⟩, trivial⟩
set_option maxRecDepth 100000 in
theorem eqlSpot (s : Bool) (n : Nat) (t : Bool) (m : Nat) (e : Nat) (s' : Bool) (n' : Nat) (t' : Bool) (m' : Nat) (e' : Nat) (hn : n < M) (hm : m < M) (he : e < M) (hn' : n' < M) (hm' : m' < M) (he' : e' < M) (w : World) : (Op.equalIn 10000 28 (.agg (spc s n t m e)) (.agg (spc s' n' t' m' e'))).run Tryz.prog w = .ok ((s == s' && eqB n n') && ((t == t' && eqB m m') && eqB e e')) w := at_depth (P := fun k => (Op.equalIn k _ _ _).run _ w = _) (show 10000 = 9996 + 4 from rfl) (eqlSpot_d 9996 s n t m e s' n' t' m' e' hn hm he hn' hm' he' w)
set_option maxRecDepth 100000 in
theorem selfSpot_d (k₀ : Nat) (s : Bool) (n : Nat) (t : Bool) (m : Nat) (e : Nat) (w : World) : (Op.equalIn (k₀ + 4) 28 (.agg (spc s n t m e)) (.agg (spc s n t m e))).run Tryz.prog w = .ok true w :=
  eqStruct [(26, 0), (26, 9), (24, 18)] [true, true, true] (by kernel_rfl) (by kernel_rfl) (by kernel_rfl) ⟨⟨.agg (ic s n), .agg (ic s n), part_row (by first | exact rowI _ _ | (rw [cells_size]; exact rowW)) (by kernel_rfl) w, part_row (by first | exact rowI _ _ | (rw [cells_size]; exact rowW)) (by kernel_rfl) w, (selfI_d (k₀) s n w).trans (by simp)⟩, ⟨.agg (ic t m), .agg (ic t m), part_row (by first | exact rowI _ _ | (rw [cells_size]; exact rowW)) (by kernel_rfl) w, part_row (by first | exact rowI _ _ | (rw [cells_size]; exact rowW)) (by kernel_rfl) w, (selfI_d (k₀) t m w).trans (by simp)⟩, ⟨.agg (cells 8 e), .agg (cells 8 e), part_row (by first | exact rowI _ _ | (rw [cells_size]; exact rowW)) (by kernel_rfl) w, part_row (by first | exact rowI _ _ | (rw [cells_size]; exact rowW)) (by kernel_rfl) w, (selfW_d (k₀ + 1) _ w).trans (by simp)⟩, trivial⟩
set_option maxRecDepth 100000 in
@[simp] theorem selfSpot (s : Bool) (n : Nat) (t : Bool) (m : Nat) (e : Nat) (w : World) : (Op.equalIn 10000 28 (.agg (spc s n t m e)) (.agg (spc s n t m e))).run Tryz.prog w = .ok true w := at_depth (P := fun k => (Op.equalIn k _ _ _).run _ w = _) (show 10000 = 9996 + 4 from rfl) (selfSpot_d 9996 s n t m e w)
end Go.Proofs.YtacicfmalhhceaaGreatDoor.SpW
