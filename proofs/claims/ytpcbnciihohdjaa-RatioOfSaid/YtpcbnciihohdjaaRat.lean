/-
  Structs by their cells: Ratio.
-/
import Derived.Test.YtpcbnciihohdjaaCells
namespace Go.Proofs.Ytpcbnciihohdjaa.RatW
open Go.RowKit
open WideM WideV KM WideW SignW
set_option maxRecDepth 100000 in
instance scalBool : Scal Try.prog 4 := ⟨by kernel_rfl⟩
instance scalInt : Scal Try.prog 3 := ⟨by kernel_rfl⟩
instance cellI_0 (s : Bool) (n : Nat) : CellV Try.prog 4 (ic s n) 0 (.bool s) := ⟨⟨by kernel_rfl⟩, rfl⟩
theorem eqlI_d (d : Nat) (s : Bool) (n : Nat) (t : Bool) (m : Nat) (hn : n < M) (hm : m < M) (w : World) : (Op.equalIn (d + 3) 26 (.agg (ic s n)) (.agg (ic t m))).run Try.prog w = .ok (s == t && eqB n m) w :=
  eqStruct [(4, 0), (24, 1)] [s == t, eqB n m] (by kernel_rfl) (by kernel_rfl) (by kernel_rfl) ⟨⟨_, _, run_part_plain w (by kernel_rfl) (ic_0 _ _), run_part_plain w (by kernel_rfl) (ic_0 _ _), run_equalIn_bool w (d + 1) _ _ _ Try.underlying4⟩, ⟨.agg (cells 8 n), .agg (cells 8 m), part_row (by rw [cells_size]; exact rowW) (by kernel_rfl) w, part_row (by rw [cells_size]; exact rowW) (by kernel_rfl) w, eqlW_d d _ _ hn hm w⟩, trivial⟩
theorem selfI_d (d : Nat) (s : Bool) (n : Nat) (w : World) : (Op.equalIn (d + 3) 26 (.agg (ic s n)) (.agg (ic s n))).run Try.prog w = .ok true w :=
  eqStruct [(4, 0), (24, 1)] [true, true] (by kernel_rfl) (by kernel_rfl) (by kernel_rfl) ⟨⟨_, _, run_part_plain w (by kernel_rfl) (ic_0 _ _), run_part_plain w (by kernel_rfl) (ic_0 _ _), (run_equalIn_bool w (d + 1) _ _ _ Try.underlying4).trans (by simp)⟩, ⟨.agg (cells 8 n), .agg (cells 8 n), part_row (by rw [cells_size]; exact rowW) (by kernel_rfl) w, part_row (by rw [cells_size]; exact rowW) (by kernel_rfl) w, selfW_d d _ w⟩, trivial⟩
section
variable {ops : Array Oper} {Q : Exit → Act → World → Prop} {rest : List Oper} {r₀ : List St} {a : Act} {W : World} {L Lc : List Ent} {d : Option Tmp} {ty : TypeId} {ps : String} {af : Array Edge} {gd : Option (Nat × Bool)} {x y : Operand} {s : Bool} {n : Nat} {C : World → Prop} {TQ : Act → Prop}
theorem qq_I (hx : a.eval x = .bool s) (hy : a.eval y = .agg (cells 8 n)) (hw : Region.wanted ⟨d, .build 26 #[(0, x), (1, y)], ty, ps, af, gd⟩ (yielded ops a.tmps) = true) (h : QQ Try.prog ops C TQ rest (a.put d (.agg (ic s n)))) : QQ Try.prog ops C TQ (⟨d, .build 26 #[(0, x), (1, y)], ty, ps, af, gd⟩ :: rest) a := qq_value (fun w => exec_I hx hy w) hw h
theorem qq_I_1 (hy : a.eval y = .agg (cells 8 n)) (hw : Region.wanted ⟨d, .build 26 #[(1, y)], ty, ps, af, gd⟩ (yielded ops a.tmps) = true) (h : QQ Try.prog ops C TQ rest (a.put d (.agg (ic false n)))) : QQ Try.prog ops C TQ (⟨d, .build 26 #[(1, y)], ty, ps, af, gd⟩ :: rest) a := qq_value (fun w => exec_I1 hy w) hw h
theorem qq_I_ (hw : Region.wanted ⟨d, .build 26 #[], ty, ps, af, gd⟩ (yielded ops a.tmps) = true) (h : QQ Try.prog ops C TQ rest (a.put d (.agg (ic false 0)))) : QQ Try.prog ops C TQ (⟨d, .build 26 #[], ty, ps, af, gd⟩ :: rest) a := qq_value (fun w => exec_I0 w) hw h
theorem qq_W_ (hw : Region.wanted ⟨d, .build 24 #[], ty, ps, af, gd⟩ (yielded ops a.tmps) = true) (h : QQ Try.prog ops C TQ rest (a.put d (.agg (cells 8 0)))) : QQ Try.prog ops C TQ (⟨d, .build 24 #[], ty, ps, af, gd⟩ :: rest) a := qq_value (fun w => exec_W0 w) hw h
theorem qq_W_0 (hy : a.eval y = .int .u64 (n : Nat)) (hn : n < B) (hw : Region.wanted ⟨d, .build 24 #[(0, y)], ty, ps, af, gd⟩ (yielded ops a.tmps) = true) (h : QQ Try.prog ops C TQ rest (a.put d (.agg (cells 8 n)))) : QQ Try.prog ops C TQ (⟨d, .build 24 #[(0, y)], ty, ps, af, gd⟩ :: rest) a := qq_value (fun w => exec_W1 hy hn w) hw h
theorem mm_I (hx : a.eval x = .bool s) (hy : a.eval y = .agg (cells 8 n)) (h : MM Try.prog Q W Lc r₀ (a.put d (.agg (ic s n))) L) : MM Try.prog Q W Lc (.take ⟨d, .build 26 #[(0, x), (1, y)], ty, ps, af, none⟩ :: r₀) a L := mm_value (fun w => exec_I hx hy w) h
theorem mm_I_1 (hy : a.eval y = .agg (cells 8 n)) (h : MM Try.prog Q W Lc r₀ (a.put d (.agg (ic false n))) L) : MM Try.prog Q W Lc (.take ⟨d, .build 26 #[(1, y)], ty, ps, af, none⟩ :: r₀) a L := mm_value (fun w => exec_I1 hy w) h
theorem mm_I_ (h : MM Try.prog Q W Lc r₀ (a.put d (.agg (ic false 0))) L) : MM Try.prog Q W Lc (.take ⟨d, .build 26 #[], ty, ps, af, none⟩ :: r₀) a L := mm_value (fun w => exec_I0 w) h
theorem mm_W_ (h : MM Try.prog Q W Lc r₀ (a.put d (.agg (cells 8 0))) L) : MM Try.prog Q W Lc (.take ⟨d, .build 24 #[], ty, ps, af, none⟩ :: r₀) a L := mm_value (fun w => exec_W0 w) h
theorem mm_W_0 (hy : a.eval y = .int .u64 (n : Nat)) (hn : n < B) (h : MM Try.prog Q W Lc r₀ (a.put d (.agg (cells 8 n))) L) : MM Try.prog Q W Lc (.take ⟨d, .build 24 #[(0, y)], ty, ps, af, none⟩ :: r₀) a L := mm_value (fun w => exec_W1 hy hn w) h
theorem ls_W_c {m : Nat} {w : World} (hy : a.eval y = .int .u64 (m : Nat)) (hn : m < B) (h : wpList Try.prog ops Q rest (a.put d (.agg (cells 8 m))) w) : wpList Try.prog ops Q (⟨d, .build 24 #[(0, y)], ty, ps, af, none⟩ :: rest) a w := ls_W1 hy (Lib.hid hn) h
theorem lsg_W_c {m : Nat} {w : World} (hw : Region.wanted ⟨d, .build 24 #[(0, y)], ty, ps, af, gd⟩ (yielded ops a.tmps) = true) (hy : a.eval y = .int .u64 (m : Nat)) (hn : m < B) (h : wpList Try.prog ops Q rest (a.put d (.agg (cells 8 m))) w) : wpList Try.prog ops Q (⟨d, .build 24 #[(0, y)], ty, ps, af, gd⟩ :: rest) a w := lsg_value hw (exec_W1 hy hn w) h
theorem lsg_W_ {w : World} (hw : Region.wanted ⟨d, .build 24 #[], ty, ps, af, gd⟩ (yielded ops a.tmps) = true) (h : wpList Try.prog ops Q rest (a.put d (.agg (cells 8 0))) w) : wpList Try.prog ops Q (⟨d, .build 24 #[], ty, ps, af, gd⟩ :: rest) a w := lsg_value hw (exec_W0 w) h
theorem lsg_I {w : World} (hw : Region.wanted ⟨d, .build 26 #[(0, x), (1, y)], ty, ps, af, gd⟩ (yielded ops a.tmps) = true) (hx : a.eval x = .bool s) (hy : a.eval y = .agg (cells 8 n)) (h : wpList Try.prog ops Q rest (a.put d (.agg (ic s n))) w) : wpList Try.prog ops Q (⟨d, .build 26 #[(0, x), (1, y)], ty, ps, af, gd⟩ :: rest) a w := lsg_value hw (exec_I hx hy w) h
theorem lsg_I1 {w : World} (hw : Region.wanted ⟨d, .build 26 #[(1, y)], ty, ps, af, gd⟩ (yielded ops a.tmps) = true) (hy : a.eval y = .agg (cells 8 n)) (h : wpList Try.prog ops Q rest (a.put d (.agg (ic false n))) w) : wpList Try.prog ops Q (⟨d, .build 26 #[(1, y)], ty, ps, af, gd⟩ :: rest) a w := lsg_value hw (exec_I1 hy w) h
end
def rc (s : Bool) (n : Nat) (d : Nat) : Array Value := #[.bool s, .int .u64 (wd n 0 : Nat), .int .u64 (wd n 1 : Nat), .int .u64 (wd n 2 : Nat), .int .u64 (wd n 3 : Nat), .int .u64 (wd n 4 : Nat), .int .u64 (wd n 5 : Nat), .int .u64 (wd n 6 : Nat), .int .u64 (wd n 7 : Nat), .int .u64 (wd d 0 : Nat), .int .u64 (wd d 1 : Nat), .int .u64 (wd d 2 : Nat), .int .u64 (wd d 3 : Nat), .int .u64 (wd d 4 : Nat), .int .u64 (wd d 5 : Nat), .int .u64 (wd d 6 : Nat), .int .u64 (wd d 7 : Nat)]
abbrev rv (s : Bool) (n : Nat) (d : Nat) : Value := .agg (rc s n d)
set_option maxRecDepth 100000 in
theorem rc_size (s : Bool) (n : Nat) (d : Nat) : (rc s n d).size = 17 := rfl
set_option maxRecDepth 100000 in
theorem rowRatio (s : Bool) (n : Nat) (d : Nat) : Row Try.prog 28 (rc s n d).size := ⟨by kernel_rfl, by kernel_rfl⟩
set_option maxRecDepth 100000 in
instance celRatio (s : Bool) (n : Nat) (d : Nat) : Cel Try.prog 28 (rc s n d) := ⟨rowRatio s n d, by kernel_rfl⟩
set_option maxRecDepth 100000 in
instance partRatio_0Int (s : Bool) (n : Nat) (d : Nat) : Part Try.prog 26 (rc s n d) 0 (ic s n) := Part.of (rowI _ _) (by kernel_rfl)
set_option maxRecDepth 100000 in
instance putRatio_0Int (s : Bool) (n : Nat) (d : Nat) (s₂ : Bool) (n₂ : Nat) : PutP Try.prog 26 (rc s n d) 0 (ic s₂ n₂) (rc s₂ n₂ d) := ⟨rowI _ _, by kernel_rfl, by rw [ic_size]; exact (by decide : 0 + 9 ≤ 17), by kernel_rfl⟩
set_option maxRecDepth 100000 in
@[simp] theorem rc_0 (s : Bool) (n : Nat) (d : Nat) : (rc s n d)[0]? = some (.bool s) := rfl
set_option maxRecDepth 100000 in
@[simp] theorem rc_0' (s : Bool) (n : Nat) (d : Nat) (h : 0 < (rc s n d).size) : (rc s n d)[0]'h = .bool s := rfl
set_option maxRecDepth 100000 in
instance cellRatio_0 (s : Bool) (n : Nat) (d : Nat) : CellV Try.prog 4 (rc s n d) 0 (.bool s) := ⟨⟨by kernel_rfl⟩, rfl⟩
set_option maxRecDepth 100000 in
instance putRatio_0 (s : Bool) (n : Nat) (d : Nat) (s₂ : Bool) : PutV Try.prog 4 (rc s n d) 0 (.bool s₂) (rc s₂ n d) := ⟨by kernel_rfl, rfl, rfl, by rw [rc_size]; decide, rfl⟩
set_option maxRecDepth 100000 in
instance partRatio_1Wide (s : Bool) (n : Nat) (d : Nat) : Part Try.prog 24 (rc s n d) 1 (cells 8 n) := Part.of (by rw [cells_size]; exact rowW) (by kernel_rfl)
set_option maxRecDepth 100000 in
instance putRatio_1Wide (s : Bool) (n : Nat) (d : Nat) (n₂ : Nat) : PutP Try.prog 24 (rc s n d) 1 (cells 8 n₂) (rc s n₂ d) := ⟨by rw [cells_size]; exact rowW, cells_one _ _, by rw [cells_size]; exact (by decide : 1 + 8 ≤ 17), by kernel_rfl⟩
set_option maxRecDepth 100000 in
instance partRatio_9Wide (s : Bool) (n : Nat) (d : Nat) : Part Try.prog 24 (rc s n d) 9 (cells 8 d) := Part.of (by rw [cells_size]; exact rowW) (by kernel_rfl)
set_option maxRecDepth 100000 in
instance putRatio_9Wide (s : Bool) (n : Nat) (d : Nat) (d₂ : Nat) : PutP Try.prog 24 (rc s n d) 9 (cells 8 d₂) (rc s n d₂) := ⟨by rw [cells_size]; exact rowW, cells_one _ _, by rw [cells_size]; exact (by decide : 9 + 8 ≤ 17), by kernel_rfl⟩
set_option maxRecDepth 100000 in
instance putRatio (s : Bool) (n : Nat) (d : Nat) (s' : Bool) (n' : Nat) (d' : Nat) : PutP Try.prog 28 (rc s n d) 0 (rc s' n' d') (rc s' n' d') := PutP.of inferInstance rfl
set_option maxRecDepth 100000 in
instance zerRatio : ZeroC Try.prog 28 (rc false 0 0) := ⟨by unfold KM.Zero; kernel_rfl⟩
section
variable {ops : Array Oper} {Q : Exit → Act → World → Prop} {rest : List Oper} {a : Act} {w : World} {d₀ : Option Tmp} {ty : TypeId} {ps : String} {af : Array Edge} {gd : Option (Nat × Bool)} {x0 : Operand} {x1 : Operand} {s : Bool} {n : Nat} {d : Nat}
set_option maxRecDepth 100000 in
theorem exec_Ratio_  (w : World) : (execOp a.eval ⟨d₀, .build 28 #[], ty, ps, af, gd⟩).run Try.prog w = .ok (.value (.agg (rc false 0 0))) w := exec_build (by kernel_rfl) w
set_option maxRecDepth 100000 in
theorem ls_Ratio_  (h : wpList Try.prog ops Q rest (a.put d₀ (.agg (rc false 0 0))) w) : wpList Try.prog ops Q (⟨d₀, .build 28 #[], ty, ps, af, none⟩ :: rest) a w := ls_value (exec_Ratio_  w) h
set_option maxRecDepth 100000 in
theorem lsg_Ratio_ (hw : Region.wanted ⟨d₀, .build 28 #[], ty, ps, af, gd⟩ (yielded ops a.tmps) = true)  (h : wpList Try.prog ops Q rest (a.put d₀ (.agg (rc false 0 0))) w) : wpList Try.prog ops Q (⟨d₀, .build 28 #[], ty, ps, af, gd⟩ :: rest) a w := lsg_value hw (exec_Ratio_  w) h
set_option maxRecDepth 100000 in
theorem qq_Ratio_ {C : World → Prop} {TQ : Act → Prop}  (hw : Region.wanted ⟨d₀, .build 28 #[], ty, ps, af, gd⟩ (yielded ops a.tmps) = true) (h : QQ Try.prog ops C TQ rest (a.put d₀ (.agg (rc false 0 0)))) : QQ Try.prog ops C TQ (⟨d₀, .build 28 #[], ty, ps, af, gd⟩ :: rest) a := qq_value (fun w => exec_Ratio_  w) hw h
set_option maxRecDepth 100000 in
theorem mm_Ratio_ {W : World} {L Lc : List Ent} {r₀ : List St}  (h : MM Try.prog Q W Lc r₀ (a.put d₀ (.agg (rc false 0 0))) L) : MM Try.prog Q W Lc (.take ⟨d₀, .build 28 #[], ty, ps, af, none⟩ :: r₀) a L := mm_value (fun w => exec_Ratio_  w) h
set_option maxRecDepth 100000 in
theorem exec_Ratio_0 (h0 : a.eval x0 = .agg (ic s n)) (w : World) : (execOp a.eval ⟨d₀, .build 28 #[(0, x0)], ty, ps, af, gd⟩).run Try.prog w = .ok (.value (.agg (rc s n 0))) w := exec_build (by simp only [List.map_toArray, List.map_cons, List.map_nil, h0]; kernel_rfl) w
set_option maxRecDepth 100000 in
theorem ls_Ratio_0 (h0 : a.eval x0 = .agg (ic s n)) (h : wpList Try.prog ops Q rest (a.put d₀ (.agg (rc s n 0))) w) : wpList Try.prog ops Q (⟨d₀, .build 28 #[(0, x0)], ty, ps, af, none⟩ :: rest) a w := ls_value (exec_Ratio_0 h0 w) h
set_option maxRecDepth 100000 in
theorem lsg_Ratio_0 (hw : Region.wanted ⟨d₀, .build 28 #[(0, x0)], ty, ps, af, gd⟩ (yielded ops a.tmps) = true) (h0 : a.eval x0 = .agg (ic s n)) (h : wpList Try.prog ops Q rest (a.put d₀ (.agg (rc s n 0))) w) : wpList Try.prog ops Q (⟨d₀, .build 28 #[(0, x0)], ty, ps, af, gd⟩ :: rest) a w := lsg_value hw (exec_Ratio_0 h0 w) h
set_option maxRecDepth 100000 in
theorem qq_Ratio_0 {C : World → Prop} {TQ : Act → Prop} (h0 : a.eval x0 = .agg (ic s n)) (hw : Region.wanted ⟨d₀, .build 28 #[(0, x0)], ty, ps, af, gd⟩ (yielded ops a.tmps) = true) (h : QQ Try.prog ops C TQ rest (a.put d₀ (.agg (rc s n 0)))) : QQ Try.prog ops C TQ (⟨d₀, .build 28 #[(0, x0)], ty, ps, af, gd⟩ :: rest) a := qq_value (fun w => exec_Ratio_0 h0 w) hw h
set_option maxRecDepth 100000 in
theorem mm_Ratio_0 {W : World} {L Lc : List Ent} {r₀ : List St} (h0 : a.eval x0 = .agg (ic s n)) (h : MM Try.prog Q W Lc r₀ (a.put d₀ (.agg (rc s n 0))) L) : MM Try.prog Q W Lc (.take ⟨d₀, .build 28 #[(0, x0)], ty, ps, af, none⟩ :: r₀) a L := mm_value (fun w => exec_Ratio_0 h0 w) h
set_option maxRecDepth 100000 in
theorem exec_Ratio_1 (h1 : a.eval x1 = .agg (cells 8 d)) (w : World) : (execOp a.eval ⟨d₀, .build 28 #[(1, x1)], ty, ps, af, gd⟩).run Try.prog w = .ok (.value (.agg (rc false 0 d))) w := exec_build (by simp only [List.map_toArray, List.map_cons, List.map_nil, h1]; kernel_rfl) w
set_option maxRecDepth 100000 in
theorem ls_Ratio_1 (h1 : a.eval x1 = .agg (cells 8 d)) (h : wpList Try.prog ops Q rest (a.put d₀ (.agg (rc false 0 d))) w) : wpList Try.prog ops Q (⟨d₀, .build 28 #[(1, x1)], ty, ps, af, none⟩ :: rest) a w := ls_value (exec_Ratio_1 h1 w) h
set_option maxRecDepth 100000 in
theorem lsg_Ratio_1 (hw : Region.wanted ⟨d₀, .build 28 #[(1, x1)], ty, ps, af, gd⟩ (yielded ops a.tmps) = true) (h1 : a.eval x1 = .agg (cells 8 d)) (h : wpList Try.prog ops Q rest (a.put d₀ (.agg (rc false 0 d))) w) : wpList Try.prog ops Q (⟨d₀, .build 28 #[(1, x1)], ty, ps, af, gd⟩ :: rest) a w := lsg_value hw (exec_Ratio_1 h1 w) h
set_option maxRecDepth 100000 in
theorem qq_Ratio_1 {C : World → Prop} {TQ : Act → Prop} (h1 : a.eval x1 = .agg (cells 8 d)) (hw : Region.wanted ⟨d₀, .build 28 #[(1, x1)], ty, ps, af, gd⟩ (yielded ops a.tmps) = true) (h : QQ Try.prog ops C TQ rest (a.put d₀ (.agg (rc false 0 d)))) : QQ Try.prog ops C TQ (⟨d₀, .build 28 #[(1, x1)], ty, ps, af, gd⟩ :: rest) a := qq_value (fun w => exec_Ratio_1 h1 w) hw h
set_option maxRecDepth 100000 in
theorem mm_Ratio_1 {W : World} {L Lc : List Ent} {r₀ : List St} (h1 : a.eval x1 = .agg (cells 8 d)) (h : MM Try.prog Q W Lc r₀ (a.put d₀ (.agg (rc false 0 d))) L) : MM Try.prog Q W Lc (.take ⟨d₀, .build 28 #[(1, x1)], ty, ps, af, none⟩ :: r₀) a L := mm_value (fun w => exec_Ratio_1 h1 w) h
set_option maxRecDepth 100000 in
theorem exec_Ratio (h0 : a.eval x0 = .agg (ic s n)) (h1 : a.eval x1 = .agg (cells 8 d)) (w : World) : (execOp a.eval ⟨d₀, .build 28 #[(0, x0), (1, x1)], ty, ps, af, gd⟩).run Try.prog w = .ok (.value (.agg (rc s n d))) w := exec_build (by simp only [List.map_toArray, List.map_cons, List.map_nil, h0, h1]; kernel_rfl) w
set_option maxRecDepth 100000 in
theorem ls_Ratio (h0 : a.eval x0 = .agg (ic s n)) (h1 : a.eval x1 = .agg (cells 8 d)) (h : wpList Try.prog ops Q rest (a.put d₀ (.agg (rc s n d))) w) : wpList Try.prog ops Q (⟨d₀, .build 28 #[(0, x0), (1, x1)], ty, ps, af, none⟩ :: rest) a w := ls_value (exec_Ratio h0 h1 w) h
set_option maxRecDepth 100000 in
theorem lsg_Ratio (hw : Region.wanted ⟨d₀, .build 28 #[(0, x0), (1, x1)], ty, ps, af, gd⟩ (yielded ops a.tmps) = true) (h0 : a.eval x0 = .agg (ic s n)) (h1 : a.eval x1 = .agg (cells 8 d)) (h : wpList Try.prog ops Q rest (a.put d₀ (.agg (rc s n d))) w) : wpList Try.prog ops Q (⟨d₀, .build 28 #[(0, x0), (1, x1)], ty, ps, af, gd⟩ :: rest) a w := lsg_value hw (exec_Ratio h0 h1 w) h
set_option maxRecDepth 100000 in
theorem qq_Ratio {C : World → Prop} {TQ : Act → Prop} (h0 : a.eval x0 = .agg (ic s n)) (h1 : a.eval x1 = .agg (cells 8 d)) (hw : Region.wanted ⟨d₀, .build 28 #[(0, x0), (1, x1)], ty, ps, af, gd⟩ (yielded ops a.tmps) = true) (h : QQ Try.prog ops C TQ rest (a.put d₀ (.agg (rc s n d)))) : QQ Try.prog ops C TQ (⟨d₀, .build 28 #[(0, x0), (1, x1)], ty, ps, af, gd⟩ :: rest) a := qq_value (fun w => exec_Ratio h0 h1 w) hw h
set_option maxRecDepth 100000 in
theorem mm_Ratio {W : World} {L Lc : List Ent} {r₀ : List St} (h0 : a.eval x0 = .agg (ic s n)) (h1 : a.eval x1 = .agg (cells 8 d)) (h : MM Try.prog Q W Lc r₀ (a.put d₀ (.agg (rc s n d))) L) : MM Try.prog Q W Lc (.take ⟨d₀, .build 28 #[(0, x0), (1, x1)], ty, ps, af, none⟩ :: r₀) a L := mm_value (fun w => exec_Ratio h0 h1 w) h
end
set_option maxRecDepth 100000 in
@[simp] theorem fieldRatio_0 (s : Bool) (n : Nat) (d : Nat) (w : World) : (Instr.field 28 (.agg (rc s n d)) 0).run Try.prog w = .ok (.agg (ic s n)) w := run_field (by kernel_rfl) (tf := 26) (o := 0) (by kernel_rfl) (fun w => part_row (by first | exact rowI _ _ | (rw [cells_size]; exact rowW)) (by kernel_rfl) w) w
set_option maxRecDepth 100000 in
@[simp] theorem fieldRatio_1 (s : Bool) (n : Nat) (d : Nat) (w : World) : (Instr.field 28 (.agg (rc s n d)) 1).run Try.prog w = .ok (.agg (cells 8 d)) w := run_field (by kernel_rfl) (tf := 24) (o := 9) (by kernel_rfl) (fun w => part_row (by first | exact rowI _ _ | (rw [cells_size]; exact rowW)) (by kernel_rfl) w) w
set_option maxRecDepth 100000 in
theorem eqlRatio_d (k₀ : Nat) (s : Bool) (n : Nat) (d : Nat) (s' : Bool) (n' : Nat) (d' : Nat) (hn : n < M) (hd : d < M) (hn' : n' < M) (hd' : d' < M) (w : World) : (Op.equalIn (k₀ + 4) 28 (.agg (rc s n d)) (.agg (rc s' n' d'))).run Try.prog w = .ok ((s == s' && eqB n n') && eqB d d') w :=
  eqStruct [(26, 0), (24, 9)] [(s == s' && eqB n n'), eqB d d'] (by kernel_rfl) (by kernel_rfl) (by kernel_rfl) ⟨⟨.agg (ic s n), .agg (ic s' n'), part_row (by first | exact rowI _ _ | (rw [cells_size]; exact rowW)) (by kernel_rfl) w, part_row (by first | exact rowI _ _ | (rw [cells_size]; exact rowW)) (by kernel_rfl) w, eqlI_d (k₀) s n s' n' hn hn' w⟩, ⟨.agg (cells 8 d), .agg (cells 8 d'), part_row (by first | exact rowI _ _ | (rw [cells_size]; exact rowW)) (by kernel_rfl) w, part_row (by first | exact rowI _ _ | (rw [cells_size]; exact rowW)) (by kernel_rfl) w, eqlW_d (k₀ + 1) _ _ hd hd' w⟩, trivial⟩
set_option maxRecDepth 100000 in
theorem eqlRatio (s : Bool) (n : Nat) (d : Nat) (s' : Bool) (n' : Nat) (d' : Nat) (hn : n < M) (hd : d < M) (hn' : n' < M) (hd' : d' < M) (w : World) : (Op.equalIn 10000 28 (.agg (rc s n d)) (.agg (rc s' n' d'))).run Try.prog w = .ok ((s == s' && eqB n n') && eqB d d') w := at_depth (P := fun k => (Op.equalIn k _ _ _).run _ w = _) (show 10000 = 9996 + 4 from rfl) (eqlRatio_d 9996 s n d s' n' d' hn hd hn' hd' w)
set_option maxRecDepth 100000 in
theorem selfRatio_d (k₀ : Nat) (s : Bool) (n : Nat) (d : Nat) (w : World) : (Op.equalIn (k₀ + 4) 28 (.agg (rc s n d)) (.agg (rc s n d))).run Try.prog w = .ok true w :=
  eqStruct [(26, 0), (24, 9)] [true, true] (by kernel_rfl) (by kernel_rfl) (by kernel_rfl) ⟨⟨.agg (ic s n), .agg (ic s n), part_row (by first | exact rowI _ _ | (rw [cells_size]; exact rowW)) (by kernel_rfl) w, part_row (by first | exact rowI _ _ | (rw [cells_size]; exact rowW)) (by kernel_rfl) w, (selfI_d (k₀) s n w).trans (by simp)⟩, ⟨.agg (cells 8 d), .agg (cells 8 d), part_row (by first | exact rowI _ _ | (rw [cells_size]; exact rowW)) (by kernel_rfl) w, part_row (by first | exact rowI _ _ | (rw [cells_size]; exact rowW)) (by kernel_rfl) w, (selfW_d (k₀ + 1) _ w).trans (by simp)⟩, trivial⟩
set_option maxRecDepth 100000 in
@[simp] theorem selfRatio (s : Bool) (n : Nat) (d : Nat) (w : World) : (Op.equalIn 10000 28 (.agg (rc s n d)) (.agg (rc s n d))).run Try.prog w = .ok true w := at_depth (P := fun k => (Op.equalIn k _ _ _).run _ w = _) (show 10000 = 9996 + 4 from rfl) (selfRatio_d 9996 s n d w)
end Go.Proofs.Ytpcbnciihohdjaa.RatW
