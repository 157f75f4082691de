/-
  Numbers with a sign as values: how they lie in memory, are built, read and compared.
-/
import Derived.Test.YtmmnekcnaohnbaaDoorPart
import Derived.Laws.StructEq
namespace Go.Proofs.YtmmnekcnaohnbaaDoor.SignW
open Go.RowKit
open DigM WideM WideV KM DigW WideW QuotW QuotM DecM FmtW
/-- the cells of a number with a sign -/
def ic (s : Bool) (n : Nat) : Array Value := #[.bool s, .int .u64 (wd n 0 : Nat), .int .u64 (wd n 1 : Nat), .int .u64 (wd n 2 : Nat), .int .u64 (wd n 3 : Nat), .int .u64 (wd n 4 : Nat), .int .u64 (wd n 5 : Nat), .int .u64 (wd n 6 : Nat), .int .u64 (wd n 7 : Nat)]
abbrev iv (s : Bool) (n : Nat) : Value := .agg (ic s n)
theorem ic_size (s : Bool) (n : Nat) : (ic s n).size = 9 := rfl
@[simp] theorem ic_0 (s : Bool) (n : Nat) : (ic s n)[0]? = some (.bool s) := rfl
@[simp] theorem ic_0' (s : Bool) (n : Nat) (h : 0 < (ic s n).size) : (ic s n)[0]'h = .bool s := rfl
theorem rowI (s : Bool) (n : Nat) : Row Tryd.prog 26 (ic s n).size := ⟨by kernel_rfl, by kernel_rfl⟩
instance celW (n : Nat) : Cel Tryd.prog 24 (cells 8 n) := ⟨by rw [cells_size]; exact rowW, cells_one _ _⟩
instance celI (s : Bool) (n : Nat) : Cel Tryd.prog 26 (ic s n) := ⟨rowI s n, by kernel_rfl⟩
instance partI (s : Bool) (n : Nat) : Part Tryd.prog 24 (ic s n) 1 (cells 8 n) := ⟨by rw [cells_size]; exact rowW, fun j hj => by
  rw [cells_size] at hj
  rw [cells_get hj]
  match j, hj with
  | 0, _ => rfl | 1, _ => rfl | 2, _ => rfl | 3, _ => rfl | 4, _ => rfl | 5, _ => rfl | 6, _ => rfl | 7, _ => rfl⟩
instance putW (m n : Nat) : PutP Tryd.prog 24 (cells 8 m) 0 (cells 8 n) (cells 8 n) := PutP.of inferInstance (by simp)
instance putI (s t : Bool) (m n : Nat) : PutP Tryd.prog 26 (ic s m) 0 (ic t n) (ic t n) := PutP.of inferInstance rfl
instance putIW (s : Bool) (m n : Nat) : PutP Tryd.prog 24 (ic s m) 1 (cells 8 n) (ic s n) := ⟨by rw [cells_size]; exact rowW, cells_one _ _, by rw [cells_size]; exact Nat.le_refl 9, by kernel_rfl⟩
instance zerW : ZeroC Tryd.prog 24 (cells 8 0) := ⟨zeroW⟩
instance zerI : ZeroC Tryd.prog 26 (ic false 0) := ⟨by unfold KM.Zero; kernel_rfl⟩
instance putIs (s b : Bool) (n : Nat) : PutV Tryd.prog 4 (ic s n) 0 (.bool b) (ic b n) := ⟨by kernel_rfl, rfl, rfl, by rw [ic_size]; decide, rfl⟩
section
variable {ops : Array Oper} {Q : Exit → Act → World → Prop} {rest : List Oper} {a : Act} {w : World} {d : Option Tmp} {ty : TypeId} {ps : String} {af : Array Edge} {gd : Option (Nat × Bool)} {x y : Operand} {s : Bool} {n : Nat}
theorem exec_mag {g : Nat} (hx : a.eval x = .pointer (some ⟨g, 0, none⟩)) (w : World) : (execOp a.eval ⟨d, .fieldAddr 26 x 1, ty, ps, af, gd⟩).run Tryd.prog w = .ok (.value (.pointer (some ⟨g, 1, none⟩))) w := by
  unfold execOp
  simp only [hx]
  go_simp
theorem exec_field1 {g : Nat} (hx : a.eval x = .pointer (some ⟨g, 0, none⟩)) (w : World) : (execOp a.eval ⟨d, .fieldAddr 26 x 1, ty, ps, af, gd⟩).run Tryd.prog w = .ok (.value (.pointer (some ⟨g, 1, none⟩))) w := exec_mag hx w
theorem exec_field0 {g : Nat} (hx : a.eval x = .pointer (some ⟨g, 0, none⟩)) (w : World) : (execOp a.eval ⟨d, .fieldAddr 26 x 0, ty, ps, af, gd⟩).run Tryd.prog w = .ok (.value (.pointer (some ⟨g, 0, none⟩))) w := by
  unfold execOp
  simp only [hx]
  go_simp
theorem exec_I (hx : a.eval x = .bool s) (hy : a.eval y = .agg (cells 8 n)) (w : World) : (execOp a.eval ⟨d, .build 26 #[(0, x), (1, y)], ty, ps, af, gd⟩).run Tryd.prog w = .ok (.value (.agg (ic s n))) w :=
  exec_build (by simp only [List.map_toArray, List.map_cons, List.map_nil, hx, hy]; kernel_rfl) w
theorem exec_I1 (hy : a.eval y = .agg (cells 8 n)) (w : World) : (execOp a.eval ⟨d, .build 26 #[(1, y)], ty, ps, af, gd⟩).run Tryd.prog w = .ok (.value (.agg (ic false n))) w :=
  exec_build (by simp only [List.map_toArray, List.map_cons, List.map_nil, hy]; kernel_rfl) w
theorem exec_I0 (w : World) : (execOp a.eval ⟨d, .build 26 #[], ty, ps, af, gd⟩).run Tryd.prog w = .ok (.value (.agg (ic false 0))) w := exec_build (by kernel_rfl) w
theorem exec_W0 (w : World) : (execOp a.eval ⟨d, .build 24 #[], ty, ps, af, gd⟩).run Tryd.prog w = .ok (.value (.agg (cells 8 0))) w := exec_build (by kernel_rfl) w
theorem exec_W1 (hy : a.eval y = .int .u64 (n : Nat)) (hn : n < B) (w : World) : (execOp a.eval ⟨d, .build 24 #[(0, y)], ty, ps, af, gd⟩).run Tryd.prog w = .ok (.value (.agg (cells 8 n))) w := by
  have h0 : cells 8 (put 0 0 n) = (cells 8 0).setIfInBounds 0 (.int .u64 (n : Nat)) := (cells_set hn).symm
  rw [put_small (by simp), Nat.zero_add, Nat.pow_zero, Nat.one_mul] at h0
  have hb : Tryd.prog.built 24 [(0, .int .u64 (n : Nat))] = some ((cells 8 0).setIfInBounds 0 (.int .u64 (n : Nat))) := by kernel_rfl
  rw [← h0] at hb
  exact exec_build (by simp only [List.map_toArray, List.map_cons, List.map_nil, hy]; exact hb) w
theorem ls_I (hx : a.eval x = .bool s) (hy : a.eval y = .agg (cells 8 n)) (h : wpList Tryd.prog ops Q rest (a.put d (.agg (ic s n))) w) : wpList Tryd.prog ops Q (⟨d, .build 26 #[(0, x), (1, y)], ty, ps, af, none⟩ :: rest) a w := ls_value (exec_I hx hy w) h
theorem ls_I1 (hy : a.eval y = .agg (cells 8 n)) (h : wpList Tryd.prog ops Q rest (a.put d (.agg (ic false n))) w) : wpList Tryd.prog ops Q (⟨d, .build 26 #[(1, y)], ty, ps, af, none⟩ :: rest) a w := ls_value (exec_I1 hy w) h
theorem ls_I0 (h : wpList Tryd.prog ops Q rest (a.put d (.agg (ic false 0))) w) : wpList Tryd.prog ops Q (⟨d, .build 26 #[], ty, ps, af, none⟩ :: rest) a w := ls_value (exec_I0 w) h
theorem lsg_I0 (hw : Region.wanted ⟨d, .build 26 #[], ty, ps, af, gd⟩ (yielded ops a.tmps) = true) (h : wpList Tryd.prog ops Q rest (a.put d (.agg (ic false 0))) w) : wpList Tryd.prog ops Q (⟨d, .build 26 #[], ty, ps, af, gd⟩ :: rest) a w := lsg_value hw (exec_I0 w) h
theorem ls_W0 (h : wpList Tryd.prog ops Q rest (a.put d (.agg (cells 8 0))) w) : wpList Tryd.prog ops Q (⟨d, .build 24 #[], ty, ps, af, none⟩ :: rest) a w := ls_value (exec_W0 w) h
theorem ls_W1 (hy : a.eval y = .int .u64 (n : Nat)) (hn : Hid (n < B)) (h : wpList Tryd.prog ops Q rest (a.put d (.agg (cells 8 n))) w) : wpList Tryd.prog ops Q (⟨d, .build 24 #[(0, y)], ty, ps, af, none⟩ :: rest) a w := ls_value (exec_W1 hy hn.out w) h
end
@[simp] theorem fieldI0 (s : Bool) (n : Nat) (w : World) : (Instr.field 26 (.agg (ic s n)) 0).run Tryd.prog w = .ok (.bool s) w := by
  have hp : Tryd.prog.plainKey 4 = true := by kernel_rfl
  have hu : Tryd.prog.underlying 26 = some (.struct (Tryd.prog.fieldsOf 26)) := by kernel_rfl
  have h0 : (Tryd.prog.fieldsOf 26)[0]?.map (fun f => (f.type, f.offset)) = some (4, 0) := by kernel_rfl
  obtain ⟨f, hf, hf'⟩ := Option.map_eq_some_iff.1 h0
  obtain ⟨e1, e2⟩ := Prod.mk.inj hf'
  simp only [Instr.field, Sem.run_bind, run_underlying hu, Result.andThen_ok, hf, e1, e2]
  simp only [asAgg, Sem.run_pure, Result.andThen_ok, run_part_plain w hp (ic_0 s n)]
theorem eqlW_d (d : Nat) (a b : Nat) (ha : a < M) (hb : b < M) (w : World) : (Op.equalIn (d + 2) 24 (.agg (cells 8 a)) (.agg (cells 8 b))).run Tryd.prog w = .ok (eqB a b) w := by
  have hu := Tryd.underlying24
  have he := Tryd.underlying22
  have hc : Tryd.prog.cellsOf 22 = 1 := by kernel_rfl
  obtain ⟨i, hi⟩ := info_of_underlying he
  rw [run_equalIn_array w (d + 1) (cells 8 a) (cells 8 b) hu hi, hc, eqItems_words d he w 8 a b _ (fun i hi => List.mem_range.1 hi)]
  refine congrArg (fun b => Result.ok b w) ?_
  unfold eqB
  rw [Bool.eq_iff_iff, List.all_eq_true, decide_eq_true_eq]
  refine ⟨fun h => ext_words ha hb fun i hi => by simpa using h i (List.mem_range.2 hi), fun h => ?_⟩
  subst h
  intro i _
  simp
/-- two numbers with a sign are the same -/
theorem eqlI (s t : Bool) (a b : Nat) (ha : a < M) (hb : b < M) (w : World) : (Op.equalIn 10000 26 (.agg (ic s a)) (.agg (ic t b))).run Tryd.prog w = .ok (s == t && eqB a b) w := by
  have hS : Tryd.prog.underlying 26 = some (.struct (Tryd.prog.fieldsOf 26)) := by kernel_rfl
  have hF : (Tryd.prog.fieldsOf 26).toList.map (fun f => (f.name ≠ "_" : Bool) && (f.type, f.offset) == (f.type, f.offset)) = [true, true] := by kernel_rfl
  have hF2 : (Tryd.prog.fieldsOf 26).toList.map (fun f => (f.type, f.offset)) = [(4, 0), (24, 1)] := by kernel_rfl
  rw [show (10000 : Nat) = 9999 + 1 from rfl, run_equalIn_struct w 9999 _ _ _ hS (by kernel_rfl)]
  generalize (Tryd.prog.fieldsOf 26).toList = fs at hF hF2
  obtain ⟨f, fs1, rfl, e1, hF2⟩ := List.map_eq_cons_iff.1 hF2
  obtain ⟨g, fs2, rfl, e2, hF2⟩ := List.map_eq_cons_iff.1 hF2
  obtain rfl := List.map_eq_nil_iff.1 hF2
  simp only [List.map_cons, List.map_nil, List.cons.injEq, Prod.mk.injEq, and_true, beq_self_eq_true, Bool.and_true, decide_eq_true_eq] at hF e1 e2
  obtain ⟨f1, f2⟩ := e1
  obtain ⟨g1, g2⟩ := e2
  have hp : Tryd.prog.plainKey 4 = true := by kernel_rfl
  have hW : ∀ (s : Bool) (n : Nat) (w : World), (part 24 (ic s n) 1).run Tryd.prog w = .ok (.agg (cells 8 n)) w := fun s n w => by
    rw [run_part_row rowW, show (ic s n).extract 1 (1 + 8) = cells 8 n by kernel_rfl]
  simp only [Op.eqFields, if_pos hF.1, if_pos hF.2, Sem.run_bind, f1, f2, g1, g2, run_part_plain w hp (ic_0 _ _), Result.andThen_ok, run_equalIn_bool w 9998 4 s t Tryd.underlying4]
  by_cases h : s = t
  · subst h
    have e := eqlW_d 9997 a b ha hb w
    rw [beq_self_eq_true, Bool.true_and, Bool.not_true, if_neg (by decide)]
    simp only [Sem.run_bind, hW, Result.andThen_ok]
    rw [show (9999 : Nat) = 9997 + 2 from rfl, e]
    cases eqB a b <;> rfl
  · have h' : (s == t) = false := by simpa using h
    simp [h']
theorem selfW_d (d : Nat) (a : Nat) (w : World) : (Op.equalIn (d + 2) 24 (.agg (cells 8 a)) (.agg (cells 8 a))).run Tryd.prog w = .ok true w := by
  have hu := Tryd.underlying24
  have he := Tryd.underlying22
  have hc : Tryd.prog.cellsOf 22 = 1 := by kernel_rfl
  obtain ⟨i, hi⟩ := info_of_underlying he
  rw [run_equalIn_array w (d + 1) (cells 8 a) (cells 8 a) hu hi, hc, eqItems_words d he w 8 a a _ (fun i hi => List.mem_range.1 hi)]
  simp
@[simp] theorem selfI (s : Bool) (a : Nat) (w : World) : (Op.equalIn 10000 26 (.agg (ic s a)) (.agg (ic s a))).run Tryd.prog w = .ok true w := by
  have hS : Tryd.prog.underlying 26 = some (.struct (Tryd.prog.fieldsOf 26)) := by kernel_rfl
  have hF : (Tryd.prog.fieldsOf 26).toList.map (fun f => (f.name ≠ "_" : Bool) && (f.type, f.offset) == (f.type, f.offset)) = [true, true] := by kernel_rfl
  have hF2 : (Tryd.prog.fieldsOf 26).toList.map (fun f => (f.type, f.offset)) = [(4, 0), (24, 1)] := by kernel_rfl
  rw [show (10000 : Nat) = 9999 + 1 from rfl, run_equalIn_struct w 9999 _ _ _ hS (by kernel_rfl)]
  generalize (Tryd.prog.fieldsOf 26).toList = fs at hF hF2
  obtain ⟨f, fs1, rfl, e1, hF2⟩ := List.map_eq_cons_iff.1 hF2
  obtain ⟨g, fs2, rfl, e2, hF2⟩ := List.map_eq_cons_iff.1 hF2
  obtain rfl := List.map_eq_nil_iff.1 hF2
  simp only [List.map_cons, List.map_nil, List.cons.injEq, Prod.mk.injEq, and_true, beq_self_eq_true, Bool.and_true, decide_eq_true_eq] at hF e1 e2
  obtain ⟨f1, f2⟩ := e1
  obtain ⟨g1, g2⟩ := e2
  have hp : Tryd.prog.plainKey 4 = true := by kernel_rfl
  have hW : ∀ (s : Bool) (n : Nat) (w : World), (part 24 (ic s n) 1).run Tryd.prog w = .ok (.agg (cells 8 n)) w := fun s n w => by
    rw [run_part_row rowW, show (ic s n).extract 1 (1 + 8) = cells 8 n by kernel_rfl]
  simp only [Op.eqFields, if_pos hF.1, if_pos hF.2, Sem.run_bind, f1, f2, g1, g2, run_part_plain w hp (ic_0 _ _), Result.andThen_ok, run_equalIn_bool w 9998 4 s s Tryd.underlying4]
  have e := selfW_d 9997 a w
  rw [beq_self_eq_true, Bool.not_true, if_neg (by decide)]
  simp only [Sem.run_bind, hW, Result.andThen_ok]
  rw [show (9999 : Nat) = 9997 + 2 from rfl, e]
  rfl
end Go.Proofs.YtmmnekcnaohnbaaDoor.SignW
