/-
  Texts of the layers below in one: IntMath Int Sign Sign2 Sign3 Sign4 SignRef SignRef2 SignRef3 SignLaws IntArgs.
-/
import Derived.Test.YtacicfmalhhceaaGreatDoorLow3
import Derived.Test.YtacicfmalhhceaaGreatDoorBase
import Derived.Laws.StructEq
import Derived.Test.YtacicfmalhhceaaGreatDoorLow2
import Derived.WideShapes
import Derived.ChangeSame
/- Numbers with a sign: plain facts. -/
namespace SignM
open WideM
def sg (s : Bool) (n : Nat) : Int := if s = true then -(n : Int) else n
/-- is it below 0? -/
def ng (z : Int) : Bool := decide (z < 0)
def fitI (z : Int) : Bool := decide (z.natAbs < M)
def lowI (z : Int) : Int := if z.natAbs < M then z else 0
theorem sg_f (n : Nat) : sg false n = n := rfl
theorem sg_t (n : Nat) : sg true n = -(n : Int) := rfl
theorem sg_abs (s : Bool) (n : Nat) : (sg s n).natAbs = n := by cases s <;> simp [sg]
theorem sg_ng (z : Int) : sg (ng z) z.natAbs = z := by
  unfold sg ng
  by_cases h : z < 0
  · simp only [h, decide_true, if_true]; omega
  · simp only [h, decide_false, Bool.false_eq_true, if_false]; omega
theorem ng_sg (s : Bool) (n : Nat) : ng (sg s n) = (s && !eqB n 0) := by
  cases s
  · rw [sg_f]; unfold ng; rw [decide_eq_false (by omega)]; rfl
  · rw [sg_t]
    unfold ng eqB
    by_cases h : n = 0
    · subst h; rfl
    · rw [decide_eq_true (by omega), decide_eq_false h]; rfl
theorem low_fit {z : Int} (h : z.natAbs < M) : lowI z = z := if_pos h
theorem low_big {z : Int} (h : ¬ z.natAbs < M) : lowI z = 0 := if_neg h
theorem lowI_lt (z : Int) : (lowI z).natAbs < M := by unfold lowI; split; assumption; exact M_pos
theorem fit_yes {z : Int} (h : z.natAbs < M) : fitI z = true := decide_eq_true h
theorem fit_no {z : Int} (h : ¬ z.natAbs < M) : fitI z = false := decide_eq_false h
/-- numbers of both signs: the sum is what is between them -/
theorem sg_apart {s t : Bool} {a b : Nat} (h : s ≠ t) (hab : b ≤ a) : sg s (a - b) = sg s a + sg t b := by
  cases s <;> cases t <;> first | exact absurd rfl h | (simp only [sg_t, sg_f]; omega)
theorem sg_same (s : Bool) (a b : Nat) : sg s (a + b) = sg s a + sg s b := by
  cases s <;> simp only [sg_t, sg_f] <;> omega
theorem sg_mul (s t : Bool) (a b : Nat) : sg (s != t) (a * b) = sg s a * sg t b := by
  cases s <;> cases t <;> simp [sg, Int.mul_neg, Int.neg_mul]
theorem sg_not (s : Bool) (a : Nat) : sg (!s) a = - sg s a := by cases s <;> simp [sg]
end SignM

/- Numbers with a sign as values: how they lie in memory, are built, read and compared. -/
namespace Go.Proofs.YtacicfmalhhceaaGreatDoor.SignW
open Go.RowKit
open DigM WideM WideV KM DigW WideW QuotW QuotM DecM FmtW
/-- the cells of a number with a sign -/
def ic (s : Bool) (n : Nat) : Array Value := #[.bool s, .int .u64 (wd n 0 : Nat), .int .u64 (wd n 1 : Nat), .int .u64 (wd n 2 : Nat), .int .u64 (wd n 3 : Nat), .int .u64 (wd n 4 : Nat), .int .u64 (wd n 5 : Nat), .int .u64 (wd n 6 : Nat), .int .u64 (wd n 7 : Nat)]
abbrev iv (s : Bool) (n : Nat) : Value := .agg (ic s n)
theorem ic_size (s : Bool) (n : Nat) : (ic s n).size = 9 := rfl
@[simp] theorem ic_0 (s : Bool) (n : Nat) : (ic s n)[0]? = some (.bool s) := rfl
@[simp] theorem ic_0' (s : Bool) (n : Nat) (h : 0 < (ic s n).size) : (ic s n)[0]'h = .bool s := rfl
theorem rowI (s : Bool) (n : Nat) : Row Tryz.prog 26 (ic s n).size := ⟨by kernel_rfl, by kernel_rfl⟩
instance celW (n : Nat) : Cel Tryz.prog 24 (cells 8 n) := ⟨by rw [cells_size]; exact rowW, cells_one _ _⟩
instance celI (s : Bool) (n : Nat) : Cel Tryz.prog 26 (ic s n) := ⟨rowI s n, by kernel_rfl⟩
instance partI (s : Bool) (n : Nat) : Part Tryz.prog 24 (ic s n) 1 (cells 8 n) := ⟨by rw [cells_size]; exact rowW, fun j hj => by
  rw [cells_size] at hj
  rw [cells_get hj]
  match j, hj with
  | 0, _ => rfl | 1, _ => rfl | 2, _ => rfl | 3, _ => rfl | 4, _ => rfl | 5, _ => rfl | 6, _ => rfl | 7, _ => rfl⟩
instance putW (m n : Nat) : PutP Tryz.prog 24 (cells 8 m) 0 (cells 8 n) (cells 8 n) := PutP.of inferInstance (by simp)
instance putI (s t : Bool) (m n : Nat) : PutP Tryz.prog 26 (ic s m) 0 (ic t n) (ic t n) := PutP.of inferInstance rfl
instance putIW (s : Bool) (m n : Nat) : PutP Tryz.prog 24 (ic s m) 1 (cells 8 n) (ic s n) := ⟨by rw [cells_size]; exact rowW, cells_one _ _, by rw [cells_size]; exact Nat.le_refl 9, by kernel_rfl⟩
instance zerW : ZeroC Tryz.prog 24 (cells 8 0) := ⟨zeroW⟩
instance zerI : ZeroC Tryz.prog 26 (ic false 0) := ⟨by unfold KM.Zero; kernel_rfl⟩
instance putIs (s b : Bool) (n : Nat) : PutV Tryz.prog 4 (ic s n) 0 (.bool b) (ic b n) := ⟨by kernel_rfl, rfl, rfl, by rw [ic_size]; decide, rfl⟩
section
variable {ops : Array Oper} {Q : Exit → Act → World → Prop} {rest : List Oper} {a : Act} {w : World} {d : Option Tmp} {ty : TypeId} {ps : String} {af : Array Edge} {gd : Option (Nat × Bool)} {x y : Operand} {s : Bool} {n : Nat}
theorem exec_mag {g : Nat} (hx : a.eval x = .pointer (some ⟨g, 0, none⟩)) (w : World) : (execOp a.eval ⟨d, .fieldAddr 26 x 1, ty, ps, af, gd⟩).run Tryz.prog w = .ok (.value (.pointer (some ⟨g, 1, none⟩))) w := by
  unfold execOp
  simp only [hx]
  go_simp
theorem exec_field1 {g : Nat} (hx : a.eval x = .pointer (some ⟨g, 0, none⟩)) (w : World) : (execOp a.eval ⟨d, .fieldAddr 26 x 1, ty, ps, af, gd⟩).run Tryz.prog w = .ok (.value (.pointer (some ⟨g, 1, none⟩))) w := exec_mag hx w
theorem exec_field0 {g : Nat} (hx : a.eval x = .pointer (some ⟨g, 0, none⟩)) (w : World) : (execOp a.eval ⟨d, .fieldAddr 26 x 0, ty, ps, af, gd⟩).run Tryz.prog w = .ok (.value (.pointer (some ⟨g, 0, none⟩))) w := by
  unfold execOp
  simp only [hx]
  go_simp
theorem exec_I (hx : a.eval x = .bool s) (hy : a.eval y = .agg (cells 8 n)) (w : World) : (execOp a.eval ⟨d, .build 26 #[(0, x), (1, y)], ty, ps, af, gd⟩).run Tryz.prog w = .ok (.value (.agg (ic s n))) w :=
  exec_build (by simp only [List.map_toArray, List.map_cons, List.map_nil, hx, hy]; kernel_rfl) w
theorem exec_I1 (hy : a.eval y = .agg (cells 8 n)) (w : World) : (execOp a.eval ⟨d, .build 26 #[(1, y)], ty, ps, af, gd⟩).run Tryz.prog w = .ok (.value (.agg (ic false n))) w :=
  exec_build (by simp only [List.map_toArray, List.map_cons, List.map_nil, hy]; kernel_rfl) w
theorem exec_I0 (w : World) : (execOp a.eval ⟨d, .build 26 #[], ty, ps, af, gd⟩).run Tryz.prog w = .ok (.value (.agg (ic false 0))) w := exec_build (by kernel_rfl) w
theorem exec_W0 (w : World) : (execOp a.eval ⟨d, .build 24 #[], ty, ps, af, gd⟩).run Tryz.prog w = .ok (.value (.agg (cells 8 0))) w := exec_build (by kernel_rfl) w
theorem exec_W1 (hy : a.eval y = .int .u64 (n : Nat)) (hn : n < B) (w : World) : (execOp a.eval ⟨d, .build 24 #[(0, y)], ty, ps, af, gd⟩).run Tryz.prog w = .ok (.value (.agg (cells 8 n))) w := by
  have h0 : cells 8 (put 0 0 n) = (cells 8 0).setIfInBounds 0 (.int .u64 (n : Nat)) := (cells_set hn).symm
  rw [put_small (by simp), Nat.zero_add, Nat.pow_zero, Nat.one_mul] at h0
  have hb : Tryz.prog.built 24 [(0, .int .u64 (n : Nat))] = some ((cells 8 0).setIfInBounds 0 (.int .u64 (n : Nat))) := by kernel_rfl
  rw [← h0] at hb
  exact exec_build (by simp only [List.map_toArray, List.map_cons, List.map_nil, hy]; exact hb) w
theorem ls_I (hx : a.eval x = .bool s) (hy : a.eval y = .agg (cells 8 n)) (h : wpList Tryz.prog ops Q rest (a.put d (.agg (ic s n))) w) : wpList Tryz.prog ops Q (⟨d, .build 26 #[(0, x), (1, y)], ty, ps, af, none⟩ :: rest) a w := ls_value (exec_I hx hy w) h
theorem ls_I1 (hy : a.eval y = .agg (cells 8 n)) (h : wpList Tryz.prog ops Q rest (a.put d (.agg (ic false n))) w) : wpList Tryz.prog ops Q (⟨d, .build 26 #[(1, y)], ty, ps, af, none⟩ :: rest) a w := ls_value (exec_I1 hy w) h
theorem ls_I0 (h : wpList Tryz.prog ops Q rest (a.put d (.agg (ic false 0))) w) : wpList Tryz.prog ops Q (⟨d, .build 26 #[], ty, ps, af, none⟩ :: rest) a w := ls_value (exec_I0 w) h
theorem lsg_I0 (hw : Region.wanted ⟨d, .build 26 #[], ty, ps, af, gd⟩ (yielded ops a.tmps) = true) (h : wpList Tryz.prog ops Q rest (a.put d (.agg (ic false 0))) w) : wpList Tryz.prog ops Q (⟨d, .build 26 #[], ty, ps, af, gd⟩ :: rest) a w := lsg_value hw (exec_I0 w) h
theorem ls_W0 (h : wpList Tryz.prog ops Q rest (a.put d (.agg (cells 8 0))) w) : wpList Tryz.prog ops Q (⟨d, .build 24 #[], ty, ps, af, none⟩ :: rest) a w := ls_value (exec_W0 w) h
theorem ls_W1 (hy : a.eval y = .int .u64 (n : Nat)) (hn : Hid (n < B)) (h : wpList Tryz.prog ops Q rest (a.put d (.agg (cells 8 n))) w) : wpList Tryz.prog ops Q (⟨d, .build 24 #[(0, y)], ty, ps, af, none⟩ :: rest) a w := ls_value (exec_W1 hy hn.out w) h
end
@[simp] theorem fieldI0 (s : Bool) (n : Nat) (w : World) : (Instr.field 26 (.agg (ic s n)) 0).run Tryz.prog w = .ok (.bool s) w := by
  have hp : Tryz.prog.plainKey 4 = true := by kernel_rfl
  have hu : Tryz.prog.underlying 26 = some (.struct (Tryz.prog.fieldsOf 26)) := by kernel_rfl
  have h0 : (Tryz.prog.fieldsOf 26)[0]?.map (fun f => (f.type, f.offset)) = some (4, 0) := by kernel_rfl
  obtain ⟨f, hf, hf'⟩ := Option.map_eq_some_iff.1 h0
  obtain ⟨e1, e2⟩ := Prod.mk.inj hf'
  simp only [Instr.field, Sem.run_bind, run_underlying hu, Result.andThen_ok, hf, e1, e2]
  simp only [asAgg, Sem.run_pure, Result.andThen_ok, run_part_plain w hp (ic_0 s n)]
theorem eqlW_d (d : Nat) (a b : Nat) (ha : a < M) (hb : b < M) (w : World) : (Op.equalIn (d + 2) 24 (.agg (cells 8 a)) (.agg (cells 8 b))).run Tryz.prog w = .ok (eqB a b) w := by
  have hu := Tryz.underlying24
  have he := Tryz.underlying22
  have hc : Tryz.prog.cellsOf 22 = 1 := by kernel_rfl
  obtain ⟨i, hi⟩ := info_of_underlying he
  rw [run_equalIn_array w (d + 1) (cells 8 a) (cells 8 b) hu hi, hc, eqItems_words d he w 8 a b _ (fun i hi => List.mem_range.1 hi)]
  refine congrArg (fun b => Result.ok b w) ?_
  unfold eqB
  rw [Bool.eq_iff_iff, List.all_eq_true, decide_eq_true_eq]
  refine ⟨fun h => ext_words ha hb fun i hi => by simpa using h i (List.mem_range.2 hi), fun h => ?_⟩
  subst h
  intro i _
  simp
/-- two numbers with a sign are the same -/
theorem eqlI (s t : Bool) (a b : Nat) (ha : a < M) (hb : b < M) (w : World) : (Op.equalIn 10000 26 (.agg (ic s a)) (.agg (ic t b))).run Tryz.prog w = .ok (s == t && eqB a b) w := by
  have hS : Tryz.prog.underlying 26 = some (.struct (Tryz.prog.fieldsOf 26)) := by kernel_rfl
  have hF : (Tryz.prog.fieldsOf 26).toList.map (fun f => (f.name ≠ "_" : Bool) && (f.type, f.offset) == (f.type, f.offset)) = [true, true] := by kernel_rfl
  have hF2 : (Tryz.prog.fieldsOf 26).toList.map (fun f => (f.type, f.offset)) = [(4, 0), (24, 1)] := by kernel_rfl
  rw [show (10000 : Nat) = 9999 + 1 from rfl, run_equalIn_struct w 9999 _ _ _ hS (by kernel_rfl)]
  generalize (Tryz.prog.fieldsOf 26).toList = fs at hF hF2
  obtain ⟨f, fs1, rfl, e1, hF2⟩ := List.map_eq_cons_iff.1 hF2
  obtain ⟨g, fs2, rfl, e2, hF2⟩ := List.map_eq_cons_iff.1 hF2
  obtain rfl := List.map_eq_nil_iff.1 hF2
  simp only [List.map_cons, List.map_nil, List.cons.injEq, Prod.mk.injEq, and_true, beq_self_eq_true, Bool.and_true, decide_eq_true_eq] at hF e1 e2
  obtain ⟨f1, f2⟩ := e1
  obtain ⟨g1, g2⟩ := e2
  have hp : Tryz.prog.plainKey 4 = true := by kernel_rfl
  have hW : ∀ (s : Bool) (n : Nat) (w : World), (part 24 (ic s n) 1).run Tryz.prog w = .ok (.agg (cells 8 n)) w := fun s n w => by
    rw [run_part_row rowW, show (ic s n).extract 1 (1 + 8) = cells 8 n by kernel_rfl]
  simp only [Op.eqFields, if_pos hF.1, if_pos hF.2, Sem.run_bind, f1, f2, g1, g2, run_part_plain w hp (ic_0 _ _), Result.andThen_ok, run_equalIn_bool w 9998 4 s t Tryz.underlying4]
  by_cases h : s = t
  · subst h
    have e := eqlW_d 9997 a b ha hb w
    rw [beq_self_eq_true, Bool.true_and, Bool.not_true, if_neg (by decide)]
    simp only [Sem.run_bind, hW, Result.andThen_ok]
    rw [show (9999 : Nat) = 9997 + 2 from rfl, e]
    cases eqB a b <;> rfl
  · have h' : (s == t) = false := by simpa using h
    simp [h']
theorem selfW_d (d : Nat) (a : Nat) (w : World) : (Op.equalIn (d + 2) 24 (.agg (cells 8 a)) (.agg (cells 8 a))).run Tryz.prog w = .ok true w := by
  have hu := Tryz.underlying24
  have he := Tryz.underlying22
  have hc : Tryz.prog.cellsOf 22 = 1 := by kernel_rfl
  obtain ⟨i, hi⟩ := info_of_underlying he
  rw [run_equalIn_array w (d + 1) (cells 8 a) (cells 8 a) hu hi, hc, eqItems_words d he w 8 a a _ (fun i hi => List.mem_range.1 hi)]
  simp
@[simp] theorem selfI (s : Bool) (a : Nat) (w : World) : (Op.equalIn 10000 26 (.agg (ic s a)) (.agg (ic s a))).run Tryz.prog w = .ok true w := by
  have hS : Tryz.prog.underlying 26 = some (.struct (Tryz.prog.fieldsOf 26)) := by kernel_rfl
  have hF : (Tryz.prog.fieldsOf 26).toList.map (fun f => (f.name ≠ "_" : Bool) && (f.type, f.offset) == (f.type, f.offset)) = [true, true] := by kernel_rfl
  have hF2 : (Tryz.prog.fieldsOf 26).toList.map (fun f => (f.type, f.offset)) = [(4, 0), (24, 1)] := by kernel_rfl
  rw [show (10000 : Nat) = 9999 + 1 from rfl, run_equalIn_struct w 9999 _ _ _ hS (by kernel_rfl)]
  generalize (Tryz.prog.fieldsOf 26).toList = fs at hF hF2
  obtain ⟨f, fs1, rfl, e1, hF2⟩ := List.map_eq_cons_iff.1 hF2
  obtain ⟨g, fs2, rfl, e2, hF2⟩ := List.map_eq_cons_iff.1 hF2
  obtain rfl := List.map_eq_nil_iff.1 hF2
  simp only [List.map_cons, List.map_nil, List.cons.injEq, Prod.mk.injEq, and_true, beq_self_eq_true, Bool.and_true, decide_eq_true_eq] at hF e1 e2
  obtain ⟨f1, f2⟩ := e1
  obtain ⟨g1, g2⟩ := e2
  have hp : Tryz.prog.plainKey 4 = true := by kernel_rfl
  have hW : ∀ (s : Bool) (n : Nat) (w : World), (part 24 (ic s n) 1).run Tryz.prog w = .ok (.agg (cells 8 n)) w := fun s n w => by
    rw [run_part_row rowW, show (ic s n).extract 1 (1 + 8) = cells 8 n by kernel_rfl]
  simp only [Op.eqFields, if_pos hF.1, if_pos hF.2, Sem.run_bind, f1, f2, g1, g2, run_part_plain w hp (ic_0 _ _), Result.andThen_ok, run_equalIn_bool w 9998 4 s s Tryz.underlying4]
  have e := selfW_d 9997 a w
  rw [beq_self_eq_true, Bool.not_true, if_neg (by decide)]
  simp only [Sem.run_bind, hW, Result.andThen_ok]
  rw [show (9999 : Nat) = 9997 + 2 from rfl, e]
  rfl
end Go.Proofs.YtacicfmalhhceaaGreatDoor.SignW

/- package sign: contracts over the translation. -/
namespace Go.Proofs.YtacicfmalhhceaaGreatDoor.SignW
open Go.RowKit
open DigM WideM WideV KM DigW WideW QuotW QuotM DecM FmtW SignM
/-- a number with a sign that may be -/
abbrev nv (z : Int) : Value := iv (ng z) z.natAbs
theorem nv_sg (s : Bool) (n : Nat) : nv (sg s n) = iv (s && !eqB n 0) n := by unfold nv; rw [ng_sg, sg_abs]
set_option maxRecDepth 100000 in
set_option maxHeartbeats 3200000 in
theorem told_any (s : Bool) (n : Nat) (hn : Hid (n < M)) (w : World) : Calls Tryz.prog 97 #[.bool s, wv n] w (Ret (nv (sg s n)) w) := by
  have HZ := Lib.hid (fun w => zero_any n hn.out w)
  rw [nv_sg]
  refine enter fun u => ?_
  go_enter Tryz.func97, Tryz.ntmps97
  go_wp2_with (first
    | ((with_reducible refine ls_skip ?_ ?_); (exact rfl); (try simp only [Act.put, List.setIfInBounds_toArray, List.set_cons_succ, List.set_cons_zero]))
    | ((with_reducible refine ck_box ?_); refine list_box rfl fun _ _ => ?_)
    | ((with_reducible refine ck_alloc ?_); refine ls_alloc inferInstance fun _ _ => ?_))
  try simp only [Act.put, List.setIfInBounds_toArray, List.set_cons_succ, List.set_cons_zero]
  cases s
  · refine region_mix [(true, 0), (true, 1), (true, 2), (true, 6), (true, 3), (true, 4), (true, 5), (true, 7), (false, 8)] _ (Sub.skip (h := Sub.both (h := Sub.nil))) (by kernel_rfl) (by kernel_rfl) (fun _ _ _ _ _ h => by first | (simp only [Exit.then, bodyPost, defers_put] at h ⊢; exact h) | (simp only [Exit.then, Exit.inBlock, bodyPost, defers_put] at h ⊢; exact h)) ?_
    intro u2 _
    simp only [picks, List.filterMap_cons, List.filterMap_nil, List.getElem?_cons_zero, List.getElem?_cons_succ, Option.map_some]
    refine mixg_value (v := .bool false) (by rfl) (by intro w; go_simp) ?_
    try simp only [Act.put, List.setIfInBounds_toArray, List.set_cons_succ, List.set_cons_zero]
    refine mixg_value (v := .bool false) (by rfl) (by intro w; go_simp) ?_
    try simp only [Act.put, List.setIfInBounds_toArray, List.set_cons_succ, List.set_cons_zero]
    refine mixg_skip ?hsk ?_
    case hsk => rfl
    try simp only [Act.put, List.setIfInBounds_toArray, List.set_cons_succ, List.set_cons_zero]
    refine mixg_part (by rfl) rfl inferInstance inferInstance ?_
    try simp only [Act.put, List.setIfInBounds_toArray, List.set_cons_succ, List.set_cons_zero]
    refine mixg_skip ?hsk ?_
    case hsk => rfl
    try simp only [Act.put, List.setIfInBounds_toArray, List.set_cons_succ, List.set_cons_zero]
    refine mixg_skip ?hsk ?_
    case hsk => rfl
    try simp only [Act.put, List.setIfInBounds_toArray, List.set_cons_succ, List.set_cons_zero]
    refine mixg_value (v := .bool false) (by rfl) (by intro w; go_simp) ?_
    try simp only [Act.put, List.setIfInBounds_toArray, List.set_cons_succ, List.set_cons_zero]
    refine mixg_value (v := iv false n) (by rfl) (exec_I rfl rfl) ?_
    try simp only [Act.put, List.setIfInBounds_toArray, List.set_cons_succ, List.set_cons_zero]
    refine mixg_store (by rfl) rfl rfl inferInstance inferInstance inferInstance inferInstance fun u4 => ?_
    refine mix_nil ?_
    go_wp2_with (fail)
    exact bd_cell Tryz.results97 rfl inferInstance inferInstance ⟨rfl, KW.below _⟩
  · refine region_mix [(true, 0), (true, 1), (true, 2), (true, 6), (false, 3), (true, 4), (true, 5), (true, 7), (false, 8)] _ (Sub.skip (h := Sub.both (h := Sub.nil))) (by kernel_rfl) (by kernel_rfl) (fun _ _ _ _ _ h => by first | (simp only [Exit.then, bodyPost, defers_put] at h ⊢; exact h) | (simp only [Exit.then, Exit.inBlock, bodyPost, defers_put] at h ⊢; exact h)) ?_
    intro u2 _
    simp only [picks, List.filterMap_cons, List.filterMap_nil, List.getElem?_cons_zero, List.getElem?_cons_succ, Option.map_some]
    refine mixg_value (v := .bool true) (by rfl) (by intro w; go_simp) ?_
    try simp only [Act.put, List.setIfInBounds_toArray, List.set_cons_succ, List.set_cons_zero]
    refine mixg_value (v := .bool true) (by rfl) (by intro w; go_simp) ?_
    try simp only [Act.put, List.setIfInBounds_toArray, List.set_cons_succ, List.set_cons_zero]
    refine mixg_part (by rfl) rfl inferInstance inferInstance ?_
    try simp only [Act.put, List.setIfInBounds_toArray, List.set_cons_succ, List.set_cons_zero]
    refine mixg_part (by rfl) rfl inferInstance inferInstance ?_
    try simp only [Act.put, List.setIfInBounds_toArray, List.set_cons_succ, List.set_cons_zero]
    refine mixg_enter (f := 27) (args := #[wv n]) (by rfl) (by go_simp) ?_
    refine (HZ.out _).mono ?_
    rintro e w' ⟨rfl, hb'⟩
    obtain ⟨u3, rfl⟩ := u2.go hb'
    refine ⟨_, rfl, KW.weak (h := inferInstance) u3, ?_⟩
    clear hb'
    try simp only [Act.put, List.setIfInBounds_toArray, List.set_cons_succ, List.set_cons_zero]
    refine mixg_value (v := .bool (!eqB n 0)) (by rfl) (by intro w; go_simp) ?_
    try simp only [Act.put, List.setIfInBounds_toArray, List.set_cons_succ, List.set_cons_zero]
    refine mixg_value (v := .bool (!eqB n 0)) (by rfl) (by intro w; go_simp) ?_
    try simp only [Act.put, List.setIfInBounds_toArray, List.set_cons_succ, List.set_cons_zero]
    refine mixg_value (v := iv (!eqB n 0) n) (by rfl) (exec_I rfl rfl) ?_
    try simp only [Act.put, List.setIfInBounds_toArray, List.set_cons_succ, List.set_cons_zero]
    refine mixg_store (by rfl) rfl rfl inferInstance inferInstance inferInstance inferInstance fun u4 => ?_
    refine mix_nil ?_
    go_wp2_with (fail)
    exact bd_cell Tryz.results97 rfl inferInstance inferInstance ⟨rfl, KW.below _⟩
theorem two_ret (z : Int) (h1 : -9223372036854775808 ≤ z) (h2 : z ≤ 9223372036854775807) (w : World) : Calls Tryz.prog 64 #[.int .i64 z] w (Ret (.tuple #[.bool (ng z), .int .u64 (z.natAbs : Nat)]) w) :=
  (two_any z w h1 h2).mono fun e w' ⟨he, hw⟩ => ⟨he, by rw [← hw]; exact Below.refl _ _⟩
set_option maxRecDepth 100000 in
set_option maxHeartbeats 3200000 in
theorem sof_any (z : Int) (h1 : -9223372036854775808 ≤ z) (h2 : z ≤ 9223372036854775807) (w : World) : Calls Tryz.prog 34 #[.int .i64 z] w (Ret (nv z) w) := by
  have H2 := Lib.hid (fun w => two_ret z h1 h2 w)
  have HO := Lib.hid (fun w => of_any z.natAbs (Lib.hid (by omega)) w)
  unfold nv
  generalize ng z = s at *
  generalize z.natAbs = n at *
  refine enter fun u => ?_
  go_enter Tryz.func34, Tryz.ntmps34
  go_wp2_with (first
    | ((with_reducible refine ls_skip ?_ ?_); (exact rfl); (try simp only [Act.put, List.setIfInBounds_toArray, List.set_cons_succ, List.set_cons_zero]))
    | ((with_reducible refine ck_alloc ?_); refine ls_alloc inferInstance fun _ _ => ?_)
    | ((with_reducible refine ck_store ?_); refine ls_store rfl rfl inferInstance inferInstance inferInstance fun _ => ?_)
    | ((with_reducible refine ck_build (t := 26) (xs := #[(0, _), (1, _)]) ?_); refine ls_I rfl rfl ?_)
    | (go_at_call 64; (with_reducible refine (H2.out _).mono ?_); rintro e w' ⟨rfl, hb'⟩; obtain ⟨_, rfl⟩ := KW.go _ hb'; clear hb')
    | (go_at_call 31; (with_reducible refine (HO.out _).mono ?_); rintro e w' ⟨rfl, hb'⟩; obtain ⟨_, rfl⟩ := KW.go _ hb'; clear hb'))
  exact bd_cell Tryz.results34 rfl inferInstance inferInstance ⟨rfl, KW.below _⟩
set_option maxRecDepth 100000 in
set_option maxHeartbeats 3200000 in
theorem fix_any (s : Bool) (n : Nat) (hn : Hid (n < M)) (w : World) : Calls Tryz.prog 66 #[iv s n] w (Ret (nv (sg s n)) w) := by
  have HT := Lib.hid (fun w => told_any s n hn w)
  refine enter fun u => ?_
  go_enter Tryz.func66, Tryz.ntmps66
  go_wp2_with (first
    | ((with_reducible refine ls_skip ?_ ?_); (exact rfl); (try simp only [Act.put, List.setIfInBounds_toArray, List.set_cons_succ, List.set_cons_zero]))
    | ((with_reducible refine ck_box ?_); refine list_box rfl fun _ _ => ?_)
    | ((with_reducible refine ck_alloc ?_); refine ls_alloc inferInstance fun _ _ => ?_)
    | ((with_reducible refine ck_load ?_); first | refine ls_load rfl inferInstance inferInstance ?_ | refine ls_cell rfl inferInstance inferInstance ?_)
    | ((with_reducible refine ck_store ?_); refine ls_store rfl rfl inferInstance inferInstance inferInstance fun _ => ?_)
    | (go_at_call 97; (with_reducible refine (HT.out _).mono ?_); rintro e w' ⟨rfl, hb'⟩; obtain ⟨_, rfl⟩ := KW.go _ hb'; clear hb'))
  exact bd_cell Tryz.results66 rfl inferInstance inferInstance ⟨rfl, KW.below _⟩
theorem wsub_some (a b : Nat) (ha : Hid (a < M)) (hb : Hid (b < M)) (h : b ≤ a) (w : World) : Calls Tryz.prog 150 #[wv a, wv b] w (Ret (.tuple #[wv (a - b), .bool true]) w) := by
  have h1 := wsub_any a b ha hb w
  rwa [show subL a b = a - b by unfold subL low; rw [show a + M - b = a - b + M by omega, Nat.add_mod_right, Nat.mod_eq_of_lt (by have := ha.out; omega)], show leB b a = true from decide_eq_true h] at h1
set_option maxRecDepth 100000 in
set_option maxHeartbeats 3200000 in
theorem apart_any (s t : Bool) (a b : Nat) (ha : Hid (a < M)) (hb : Hid (b < M)) (h : s ≠ t) (w : World) : Calls Tryz.prog 120 #[iv s a, iv t b] w (Ret (nv (sg s a + sg t b)) w) := by
  have HC := fun w => wcmp_any a b ha hb w
  by_cases hab : a < b
  · rw [cmpI_lt hab] at HC
    have HC := Lib.hid HC
    have HS := Lib.hid (fun w => wsub_some b a hb ha (by omega) w)
    have HT := Lib.hid (fun w => told_any t (b - a) (Lib.hid (by have := hb.out; omega)) w)
    rw [Int.add_comm, ← sg_apart (Ne.symm h) (by omega : a ≤ b)]
    generalize b - a = d at *
    refine enter fun u => ?_
    go_enter Tryz.func120, Tryz.ntmps120
    go_wp2_with (first
      | ((with_reducible refine ls_skip ?_ ?_); (exact rfl); (try simp only [Act.put, List.setIfInBounds_toArray, List.set_cons_succ, List.set_cons_zero]))
      | ((with_reducible refine ck_box ?_); refine list_box rfl fun _ _ => ?_)
      | ((with_reducible refine ck_alloc ?_); refine ls_alloc inferInstance fun _ _ => ?_)
      | ((with_reducible refine ck_load ?_); first | refine ls_load rfl inferInstance inferInstance ?_ | refine ls_cell rfl inferInstance inferInstance ?_)
      | ((with_reducible refine ck_store ?_); refine ls_store rfl rfl inferInstance inferInstance inferInstance fun _ => ?_)
      | (go_at_call 58; (with_reducible refine (HC.out _).mono ?_); rintro e w' ⟨rfl, hb'⟩; obtain ⟨_, rfl⟩ := KW.go _ hb'; clear hb')
      | (go_at_call 150; (with_reducible refine (HS.out _).mono ?_); rintro e w' ⟨rfl, hb'⟩; obtain ⟨_, rfl⟩ := KW.go _ hb'; clear hb')
      | (go_at_call 97; (with_reducible refine (HT.out _).mono ?_); rintro e w' ⟨rfl, hb'⟩; obtain ⟨_, rfl⟩ := KW.go _ hb'; clear hb'))
    exact bd_cell Tryz.results120 rfl inferInstance inferInstance ⟨rfl, KW.below _⟩
  · have hc : ¬ cmpI a b < 0 := by unfold cmpI; rw [if_neg hab]; split <;> omega
    generalize cmpI a b = c at *
    have HC := Lib.hid HC
    have HS := Lib.hid (fun w => wsub_some a b ha hb (by omega) w)
    have HT := Lib.hid (fun w => told_any s (a - b) (Lib.hid (by have := ha.out; omega)) w)
    rw [← sg_apart h (by omega : b ≤ a)]
    generalize a - b = d at *
    refine enter fun u => ?_
    go_enter Tryz.func120, Tryz.ntmps120
    go_wp2_with (first
      | ((with_reducible refine ls_skip ?_ ?_); (exact rfl); (try simp only [Act.put, List.setIfInBounds_toArray, List.set_cons_succ, List.set_cons_zero]))
      | ((with_reducible refine ck_box ?_); refine list_box rfl fun _ _ => ?_)
      | ((with_reducible refine ck_alloc ?_); refine ls_alloc inferInstance fun _ _ => ?_)
      | ((with_reducible refine ck_load ?_); first | refine ls_load rfl inferInstance inferInstance ?_ | refine ls_cell rfl inferInstance inferInstance ?_)
      | ((with_reducible refine ck_store ?_); refine ls_store rfl rfl inferInstance inferInstance inferInstance fun _ => ?_)
      | (go_at_call 58; (with_reducible refine (HC.out _).mono ?_); rintro e w' ⟨rfl, hb'⟩; obtain ⟨_, rfl⟩ := KW.go _ hb'; clear hb')
      | (go_at_call 150; (with_reducible refine (HS.out _).mono ?_); rintro e w' ⟨rfl, hb'⟩; obtain ⟨_, rfl⟩ := KW.go _ hb'; clear hb')
      | (go_at_call 97; (with_reducible refine (HT.out _).mono ?_); rintro e w' ⟨rfl, hb'⟩; obtain ⟨_, rfl⟩ := KW.go _ hb'; clear hb'))
    exact bd_cell Tryz.results120 rfl inferInstance inferInstance ⟨rfl, KW.below _⟩
end Go.Proofs.YtacicfmalhhceaaGreatDoor.SignW

/- package sign: sum, difference, product, order: contracts over the translation. -/
namespace Go.Proofs.YtacicfmalhhceaaGreatDoor.SignW
open Go.RowKit
open DigM WideM WideV KM DigW WideW QuotW QuotM DecM FmtW SignM
/-- a number and whether it fits -/
abbrev fv (z : Int) : Value := .tuple #[nv (lowI z), .bool (fitI z)]
theorem fv_fit {z : Int} (h : z.natAbs < M) : fv z = .tuple #[nv z, .bool true] := by unfold fv; rw [low_fit h, fit_yes h]
theorem fv_big {z : Int} (h : ¬ z.natAbs < M) : fv z = .tuple #[iv false 0, .bool false] := by unfold fv; rw [low_big h, fit_no h]; rfl
theorem wadd_fit (a b : Nat) (ha : Hid (a < M)) (hb : Hid (b < M)) (h : a + b < M) (w : World) : Calls Tryz.prog 96 #[wv a, wv b] w (Ret (.tuple #[wv (a + b), .bool true]) w) := by
  have h1 := wadd_any a b ha hb w
  rwa [low_of h, show fitB (a + b) = true from decide_eq_true h] at h1
theorem wadd_big (a b : Nat) (ha : Hid (a < M)) (hb : Hid (b < M)) (h : ¬ a + b < M) (w : World) : Calls Tryz.prog 96 #[wv a, wv b] w (Ret (.tuple #[wv (low (a + b)), .bool false]) w) := by
  have h1 := wadd_any a b ha hb w
  rwa [show fitB (a + b) = false from decide_eq_false h] at h1
theorem wmul_fit (a b : Nat) (ha : Hid (a < M)) (hb : Hid (b < M)) (h : a * b < M) (w : World) : Calls Tryz.prog 119 #[wv a, wv b] w (Ret (.tuple #[wv (a * b), .bool true]) w) := by
  have h1 := wmul_any a b ha hb w
  rwa [low_of h, show fitB (a * b) = true from decide_eq_true h] at h1
theorem wmul_big (a b : Nat) (ha : Hid (a < M)) (hb : Hid (b < M)) (h : ¬ a * b < M) (w : World) : Calls Tryz.prog 119 #[wv a, wv b] w (Ret (.tuple #[wv (low (a * b)), .bool false]) w) := by
  have h1 := wmul_any a b ha hb w
  rwa [show fitB (a * b) = false from decide_eq_false h] at h1
theorem apart_lt {s t : Bool} {a b : Nat} (ha : a < M) (hb : b < M) (h : s ≠ t) : (sg s a + sg t b).natAbs < M := by
  cases s <;> cases t <;> first | exact absurd rfl h | (simp only [sg_t, sg_f]; omega)
set_option maxRecDepth 100000 in
set_option maxHeartbeats 3200000 in
theorem sadd_any (s t : Bool) (a b : Nat) (ha : Hid (a < M)) (hb : Hid (b < M)) (w : World) : Calls Tryz.prog 80 #[iv s a, iv t b] w (Ret (fv (sg s a + sg t b)) w) := by
  by_cases h : s = t
  · subst h
    rw [← sg_same]
    by_cases hf : a + b < M
    · rw [fv_fit (by rw [sg_abs]; exact hf)]
      have HA := Lib.hid (fun w => wadd_fit a b ha hb hf w)
      have HT := Lib.hid (fun w => told_any s (a + b) (Lib.hid hf) w)
      generalize a + b = d at *
      generalize sg s d = z at *
      refine enter fun u => ?_
      go_enter Tryz.func80, Tryz.ntmps80
      go_wp2_with (first
        | ((with_reducible refine ls_skip ?_ ?_); (exact rfl); (try simp only [Act.put, List.setIfInBounds_toArray, List.set_cons_succ, List.set_cons_zero]))
        | ((with_reducible refine ck_box ?_); refine list_box rfl fun _ _ => ?_)
        | ((with_reducible refine ck_alloc ?_); refine ls_alloc inferInstance fun _ _ => ?_)
        | ((with_reducible refine ck_load ?_); first | refine ls_load rfl inferInstance inferInstance ?_ | refine ls_cell rfl inferInstance inferInstance ?_)
        | ((with_reducible refine ck_store ?_); refine ls_store rfl rfl inferInstance inferInstance inferInstance fun _ => ?_)
        | (go_at_call 96; (with_reducible refine (HA.out _).mono ?_); rintro e w' ⟨rfl, hb'⟩; obtain ⟨_, rfl⟩ := KW.go _ hb'; clear hb')
        | (go_at_call 97; (with_reducible refine (HT.out _).mono ?_); rintro e w' ⟨rfl, hb'⟩; obtain ⟨_, rfl⟩ := KW.go _ hb'; clear hb'))
      exact bd_cell_tmp Tryz.results80 rfl rfl inferInstance inferInstance ⟨rfl, KW.below _⟩
    · rw [fv_big (by rw [sg_abs]; exact hf)]
      have HA := Lib.hid (fun w => wadd_big a b ha hb hf w)
      generalize low (a + b) = d at *
      refine enter fun u => ?_
      go_enter Tryz.func80, Tryz.ntmps80
      go_wp2_with (first
        | ((with_reducible refine ls_skip ?_ ?_); (exact rfl); (try simp only [Act.put, List.setIfInBounds_toArray, List.set_cons_succ, List.set_cons_zero]))
        | ((with_reducible refine ck_box ?_); refine list_box rfl fun _ _ => ?_)
        | ((with_reducible refine ck_alloc ?_); refine ls_alloc inferInstance fun _ _ => ?_)
        | ((with_reducible refine ck_load ?_); first | refine ls_load rfl inferInstance inferInstance ?_ | refine ls_cell rfl inferInstance inferInstance ?_)
        | ((with_reducible refine ck_store ?_); refine ls_store rfl rfl inferInstance inferInstance inferInstance fun _ => ?_)
        | ((with_reducible refine ck_build (t := 26) (xs := #[]) ?_); refine ls_I0 ?_)
        | (go_at_call 96; (with_reducible refine (HA.out _).mono ?_); rintro e w' ⟨rfl, hb'⟩; obtain ⟨_, rfl⟩ := KW.go _ hb'; clear hb'))
      exact bd_cell_tmp Tryz.results80 rfl rfl inferInstance inferInstance ⟨rfl, KW.below _⟩
  · have hn : (s != t) = true := by simpa using h
    have HA := Lib.hid (fun w => apart_any s t a b ha hb h w)
    rw [fv_fit (apart_lt ha.out hb.out h)]
    generalize sg s a + sg t b = z at *
    cases s <;> cases t <;> first | exact absurd rfl h | skip
    · refine enter fun u => ?_
      go_enter Tryz.func80, Tryz.ntmps80
      go_wp2_with (first
        | ((with_reducible refine ls_skip ?_ ?_); (exact rfl); (try simp only [Act.put, List.setIfInBounds_toArray, List.set_cons_succ, List.set_cons_zero]))
        | ((with_reducible refine ck_box ?_); refine list_box rfl fun _ _ => ?_)
        | ((with_reducible refine ck_alloc ?_); refine ls_alloc inferInstance fun _ _ => ?_)
        | ((with_reducible refine ck_load ?_); first | refine ls_load rfl inferInstance inferInstance ?_ | refine ls_cell rfl inferInstance inferInstance ?_)
        | ((with_reducible refine ck_store ?_); refine ls_store rfl rfl inferInstance inferInstance inferInstance fun _ => ?_)
        | (go_at_call 120; (with_reducible refine (HA.out _).mono ?_); rintro e w' ⟨rfl, hb'⟩; obtain ⟨_, rfl⟩ := KW.go _ hb'; clear hb'))
      exact bd_cell_tmp Tryz.results80 rfl rfl inferInstance inferInstance ⟨rfl, KW.below _⟩
    · refine enter fun u => ?_
      go_enter Tryz.func80, Tryz.ntmps80
      go_wp2_with (first
        | ((with_reducible refine ls_skip ?_ ?_); (exact rfl); (try simp only [Act.put, List.setIfInBounds_toArray, List.set_cons_succ, List.set_cons_zero]))
        | ((with_reducible refine ck_box ?_); refine list_box rfl fun _ _ => ?_)
        | ((with_reducible refine ck_alloc ?_); refine ls_alloc inferInstance fun _ _ => ?_)
        | ((with_reducible refine ck_load ?_); first | refine ls_load rfl inferInstance inferInstance ?_ | refine ls_cell rfl inferInstance inferInstance ?_)
        | ((with_reducible refine ck_store ?_); refine ls_store rfl rfl inferInstance inferInstance inferInstance fun _ => ?_)
        | (go_at_call 120; (with_reducible refine (HA.out _).mono ?_); rintro e w' ⟨rfl, hb'⟩; obtain ⟨_, rfl⟩ := KW.go _ hb'; clear hb'))
      exact bd_cell_tmp Tryz.results80 rfl rfl inferInstance inferInstance ⟨rfl, KW.below _⟩
theorem nv_lt {z : Int} (h : z.natAbs < M) : (-z).natAbs < M := by omega
set_option maxRecDepth 100000 in
set_option maxHeartbeats 3200000 in
theorem smul_any (s t : Bool) (a b : Nat) (ha : Hid (a < M)) (hb : Hid (b < M)) (w : World) : Calls Tryz.prog 79 #[iv s a, iv t b] w (Ret (fv (sg s a * sg t b)) w) := by
  rw [← sg_mul]
  obtain ⟨r, hr⟩ : ∃ r, r = (s != t) := ⟨_, rfl⟩
  rw [← hr]
  by_cases hf : a * b < M
  · rw [fv_fit (by rw [sg_abs]; exact hf)]
    have HA := Lib.hid (fun w => wmul_fit a b ha hb hf w)
    have HT := Lib.hid (fun w => told_any r (a * b) (Lib.hid hf) w)
    generalize a * b = d at *
    generalize sg r d = z at *
    refine enter fun u => ?_
    go_enter Tryz.func79, Tryz.ntmps79
    cases s <;> cases t
    all_goals (
      first | (obtain rfl : r = true := hr) | (obtain rfl : r = false := hr)
      go_wp2_with (first
        | ((with_reducible refine ls_skip ?_ ?_); (exact rfl); (try simp only [Act.put, List.setIfInBounds_toArray, List.set_cons_succ, List.set_cons_zero]))
        | ((with_reducible refine ck_box ?_); refine list_box rfl fun _ _ => ?_)
        | ((with_reducible refine ck_alloc ?_); refine ls_alloc inferInstance fun _ _ => ?_)
        | ((with_reducible refine ck_load ?_); first | refine ls_load rfl inferInstance inferInstance ?_ | refine ls_cell rfl inferInstance inferInstance ?_)
        | ((with_reducible refine ck_store ?_); refine ls_store rfl rfl inferInstance inferInstance inferInstance fun _ => ?_)
        | (go_at_call 119; (with_reducible refine (HA.out _).mono ?_); rintro e w' ⟨rfl, hb'⟩; obtain ⟨_, rfl⟩ := KW.go _ hb'; clear hb')
        | (go_at_call 97; (with_reducible refine (HT.out _).mono ?_); rintro e w' ⟨rfl, hb'⟩; obtain ⟨_, rfl⟩ := KW.go _ hb'; clear hb'))
      exact bd_cell_tmp Tryz.results79 rfl rfl inferInstance inferInstance ⟨rfl, KW.below _⟩)
  · rw [fv_big (by rw [sg_abs]; exact hf)]
    clear hr r
    have HA := Lib.hid (fun w => wmul_big a b ha hb hf w)
    generalize low (a * b) = d at *
    refine enter fun u => ?_
    go_enter Tryz.func79, Tryz.ntmps79
    go_wp2_with (first
      | ((with_reducible refine ls_skip ?_ ?_); (exact rfl); (try simp only [Act.put, List.setIfInBounds_toArray, List.set_cons_succ, List.set_cons_zero]))
      | ((with_reducible refine ck_box ?_); refine list_box rfl fun _ _ => ?_)
      | ((with_reducible refine ck_alloc ?_); refine ls_alloc inferInstance fun _ _ => ?_)
      | ((with_reducible refine ck_load ?_); first | refine ls_load rfl inferInstance inferInstance ?_ | refine ls_cell rfl inferInstance inferInstance ?_)
      | ((with_reducible refine ck_store ?_); refine ls_store rfl rfl inferInstance inferInstance inferInstance fun _ => ?_)
      | ((with_reducible refine ck_build (t := 26) (xs := #[]) ?_); refine ls_I0 ?_)
      | (go_at_call 119; (with_reducible refine (HA.out _).mono ?_); rintro e w' ⟨rfl, hb'⟩; obtain ⟨_, rfl⟩ := KW.go _ hb'; clear hb'))
    exact bd_cell_tmp Tryz.results79 rfl rfl inferInstance inferInstance ⟨rfl, KW.below _⟩
/-- how a number lies to 0 -/
def cmpZ (z : Int) : Int := if z < 0 then -1 else if z = 0 then 0 else 1
theorem cmpZ_pos {a b : Nat} : cmpI a b = cmpZ ((a : Int) - b) := by
  unfold cmpI cmpZ
  by_cases h : a < b
  · rw [if_pos h, if_pos (by omega)]
  · rw [if_neg h, if_neg (show ¬ ((a : Int) - b < 0) by omega)]
    by_cases h2 : a = b
    · rw [if_pos h2, if_pos (by omega)]
    · rw [if_neg h2, if_neg (by omega)]
set_option maxRecDepth 100000 in
set_option maxHeartbeats 3200000 in
theorem scmp_nv (x y : Int) (hx : Hid (x.natAbs < M)) (hy : Hid (y.natAbs < M)) (s t : Bool) (a b : Nat) (hs : sg s a = x) (ht : sg t b = y) (ha : Hid (a < M)) (hb : Hid (b < M)) (w : World) : Calls Tryz.prog 73 #[iv s a, iv t b] w (Ret (.int .i64 (cmpZ (x - y))) w) := by
  have HX := Lib.hid (fun w => fix_any s a ha w)
  have HY := Lib.hid (fun w => fix_any t b hb w)
  rw [hs] at HX
  rw [ht] at HY
  unfold nv at HX HY
  have HC := fun w => wcmp_any x.natAbs y.natAbs hx hy w
  have HD := fun w => wcmp_any y.natAbs x.natAbs hy hx w
  have e1 : ng x = true → ng y = true → cmpI y.natAbs x.natAbs = cmpZ (x - y) := fun h1 h2 => by
    have h1 := of_decide_eq_true h1
    have h2 := of_decide_eq_true h2
    rw [cmpZ_pos]; congr 1; omega
  have e2 : ng x = false → ng y = false → cmpI x.natAbs y.natAbs = cmpZ (x - y) := fun h1 h2 => by
    have h1 := of_decide_eq_false h1
    have h2 := of_decide_eq_false h2
    rw [cmpZ_pos]; congr 1; omega
  have e3 : ng x = true → ng y = false → -1 = cmpZ (x - y) := fun h1 h2 => by
    have h1 := of_decide_eq_true h1
    have h2 := of_decide_eq_false h2
    unfold cmpZ; rw [if_pos (by omega)]
  have e4 : ng x = false → ng y = true → 1 = cmpZ (x - y) := fun h1 h2 => by
    have h1 := of_decide_eq_false h1
    have h2 := of_decide_eq_true h2
    unfold cmpZ; rw [if_neg (by omega), if_neg (by omega)]
  clear hs ht
  generalize cmpZ (x - y) = c at *
  generalize ng x = p at *
  generalize ng y = q at *
  generalize x.natAbs = m at *
  generalize y.natAbs = n at *
  refine enter fun u => ?_
  go_enter Tryz.func73, Tryz.ntmps73
  go_wp2_with (first
    | ((with_reducible refine ls_skip ?_ ?_); (exact rfl); (try simp only [Act.put, List.setIfInBounds_toArray, List.set_cons_succ, List.set_cons_zero]))
    | ((with_reducible refine ck_box ?_); refine list_box rfl fun _ _ => ?_))
  try simp only [Act.put, List.setIfInBounds_toArray, List.set_cons_succ, List.set_cons_zero]
  refine region_tail 4 (by kernel_rfl) (by kernel_rfl) fun _ => ?_
  simp only [List.take_succ_cons, List.take_zero, List.drop_succ_cons, List.drop_zero]
  refine qt_load (by rfl) rfl inferInstance inferInstance ?_
  try simp only [Act.put, List.setIfInBounds_toArray, List.set_cons_succ, List.set_cons_zero]
  refine qt_call (f := 66) (args := #[iv s a]) (by rfl) (by intro w; go_simp) (fun u => HX.out _) ?_
  try simp only [Act.put, List.setIfInBounds_toArray, List.set_cons_succ, List.set_cons_zero]
  refine qt_load (by rfl) rfl inferInstance inferInstance ?_
  try simp only [Act.put, List.setIfInBounds_toArray, List.set_cons_succ, List.set_cons_zero]
  refine qt_call (f := 66) (args := #[iv t b]) (by rfl) (by intro w; go_simp) (fun u => HY.out _) ?_
  try simp only [Act.put, List.setIfInBounds_toArray, List.set_cons_succ, List.set_cons_zero]
  refine wpQuiet_nil ?_
  rintro _ ⟨u3, rfl⟩
  cases p <;> cases q
  · have e := e2 rfl rfl
    rw [e] at HC
    have HC := Lib.hid HC
    go_wp2_with (first
      | ((with_reducible refine ls_skip ?_ ?_); (exact rfl); (try simp only [Act.put, List.setIfInBounds_toArray, List.set_cons_succ, List.set_cons_zero]))
      | ((with_reducible refine ck_load ?_); first | refine ls_load rfl inferInstance inferInstance ?_ | refine ls_cell rfl inferInstance inferInstance ?_)
      | ((with_reducible refine ck_store ?_); refine ls_store rfl rfl inferInstance inferInstance inferInstance fun _ => ?_)
      | (go_at_call 58; (with_reducible refine (HC.out _).mono ?_); rintro e w' ⟨rfl, hb'⟩; obtain ⟨_, rfl⟩ := KW.go _ hb'; clear hb'))
    go_ret
    exact ⟨rfl, KW.below _⟩
  · obtain rfl := e4 rfl rfl
    go_wp2_with (first
      | ((with_reducible refine ls_skip ?_ ?_); (exact rfl); (try simp only [Act.put, List.setIfInBounds_toArray, List.set_cons_succ, List.set_cons_zero]))
      | ((with_reducible refine ck_load ?_); first | refine ls_load rfl inferInstance inferInstance ?_ | refine ls_cell rfl inferInstance inferInstance ?_)
      | ((with_reducible refine ck_store ?_); refine ls_store rfl rfl inferInstance inferInstance inferInstance fun _ => ?_))
    go_ret
    exact ⟨rfl, KW.below _⟩
  · obtain rfl := e3 rfl rfl
    go_wp2_with (first
      | ((with_reducible refine ls_skip ?_ ?_); (exact rfl); (try simp only [Act.put, List.setIfInBounds_toArray, List.set_cons_succ, List.set_cons_zero]))
      | ((with_reducible refine ck_load ?_); first | refine ls_load rfl inferInstance inferInstance ?_ | refine ls_cell rfl inferInstance inferInstance ?_)
      | ((with_reducible refine ck_store ?_); refine ls_store rfl rfl inferInstance inferInstance inferInstance fun _ => ?_))
    go_ret
    exact ⟨rfl, KW.below _⟩
  · have e := e1 rfl rfl
    rw [e] at HD
    have HD := Lib.hid HD
    go_wp2_with (first
      | ((with_reducible refine ls_skip ?_ ?_); (exact rfl); (try simp only [Act.put, List.setIfInBounds_toArray, List.set_cons_succ, List.set_cons_zero]))
      | ((with_reducible refine ck_load ?_); first | refine ls_load rfl inferInstance inferInstance ?_ | refine ls_cell rfl inferInstance inferInstance ?_)
      | ((with_reducible refine ck_store ?_); refine ls_store rfl rfl inferInstance inferInstance inferInstance fun _ => ?_)
      | (go_at_call 58; (with_reducible refine (HD.out _).mono ?_); rintro e w' ⟨rfl, hb'⟩; obtain ⟨_, rfl⟩ := KW.go _ hb'; clear hb'))
    go_ret
    exact ⟨rfl, KW.below _⟩
end Go.Proofs.YtacicfmalhhceaaGreatDoor.SignW

/- package sign: quotient, as an int, as a text: contracts over the translation. -/
namespace Go.Proofs.YtacicfmalhhceaaGreatDoor.SignW
open Go.RowKit
open DigM WideM WideV KM DigW WideW QuotW QuotM DecM FmtW SignM
open Go.Lib (decDigits nDigits)
theorem m_big : 18446744073709551617 < M := by unfold M; rw [B_eq]; decide +kernel
/-- a quotient's size, cut down: s and t the signs -/
def ovq (r : Bool) (a b : Nat) : Nat := if r = true ∧ ¬ a % b = 0 then a / b + 1 else a / b
theorem ovq_lt {r : Bool} {a b : Nat} (ha : a < M) : ovq r a b < M := by
  unfold ovq
  split
  · rename_i h
    have h2 : b ≠ 1 := fun e => h.2 (by rw [e]; exact Nat.mod_one a)
    rcases Nat.lt_or_ge b 1 with hb | hb
    · obtain rfl : b = 0 := by omega
      rw [Nat.div_zero]; have := m_big; omega
    · have h3 : a / b ≤ a / 2 := Nat.div_le_div_left (by omega) (by decide)
      have := m_big
      omega
  · exact Nat.lt_of_le_of_lt (Nat.div_le_self a b) ha
set_option maxRecDepth 100000 in
set_option maxHeartbeats 3200000 in
theorem sover_zero (s t : Bool) (a : Nat) (w : World) : Calls Tryz.prog 62 #[iv s a, iv t 0] w (Ret (.tuple #[iv false 0, .int .i64 1]) w) := by
  have HO := Lib.hid (fun w => over_zero a w)
  refine enter fun u => ?_
  go_enter Tryz.func62, Tryz.ntmps62
  go_wp2_with (first
    | ((with_reducible refine ls_skip ?_ ?_); (exact rfl); (try simp only [Act.put, List.setIfInBounds_toArray, List.set_cons_succ, List.set_cons_zero]))
    | ((with_reducible refine ck_box ?_); refine list_box rfl fun _ _ => ?_)
    | ((with_reducible refine ck_alloc ?_); refine ls_alloc inferInstance fun _ _ => ?_)
    | ((with_reducible refine ck_load ?_); first | refine ls_load rfl inferInstance inferInstance ?_ | refine ls_cell rfl inferInstance inferInstance ?_)
    | ((with_reducible refine ck_store ?_); refine ls_store rfl rfl inferInstance inferInstance inferInstance fun _ => ?_)
    | ((with_reducible refine ck_build (t := 26) (xs := #[]) ?_); refine ls_I0 ?_)
    | (go_at_call 29; (with_reducible refine (HO.out _).mono ?_); rintro e w' ⟨rfl, hb'⟩; obtain ⟨_, rfl⟩ := KW.go _ hb'; clear hb'))
  exact bd_cell_tmp Tryz.results62 rfl rfl inferInstance inferInstance ⟨rfl, KW.below _⟩
set_option maxRecDepth 100000 in
set_option maxHeartbeats 6400000 in
theorem sover_some (s t : Bool) (a b : Nat) (ha : Hid (a < M)) (hb : Hid (b < M)) (hp : 0 < b) (w : World) : Calls Tryz.prog 62 #[iv s a, iv t b] w (Ret (.tuple #[nv (sg (s != t) (ovq (s != t) a b)), .int .i64 0]) w) := by
  have HO := Lib.hid (fun w => over_some a b ha hb hp w)
  obtain ⟨r, hr⟩ : ∃ r, r = (s != t) := ⟨_, rfl⟩
  rw [← hr]
  have HT := Lib.hid (fun w => told_any r (ovq r a b) (Lib.hid (ovq_lt ha.out)) w)
  have hrM : a % b < M := Nat.lt_trans (Nat.mod_lt a hp) hb.out
  have HZ := fun w => zero_any (a % b) hrM w
  clear hrM
  cases r with
  | false =>
    have e : ovq false a b = a / b := if_neg (by simp)
    rw [e] at HT ⊢
    clear e HZ
    generalize a / b = q at *
    generalize a % b = k at *
    generalize sg false q = z at *
    refine enter fun u => ?_
    go_enter Tryz.func62, Tryz.ntmps62
    cases s <;> cases t <;> first | exact absurd hr (by decide) | skip
    all_goals (
      clear hr hp ha hb
      go_wp2_with (first
        | ((with_reducible refine ls_skip ?_ ?_); (exact rfl); (try simp only [Act.put, List.setIfInBounds_toArray, List.set_cons_succ, List.set_cons_zero]))
        | ((with_reducible refine ck_box ?_); refine list_box rfl fun _ _ => ?_)
        | ((with_reducible refine ck_alloc ?_); refine ls_alloc inferInstance fun _ _ => ?_)
        | ((with_reducible refine ck_load ?_); first | refine ls_load rfl inferInstance inferInstance ?_ | refine ls_cell rfl inferInstance inferInstance ?_)
        | ((with_reducible refine ck_store ?_); refine ls_store rfl rfl inferInstance inferInstance inferInstance fun _ => ?_)
        | (go_at_call 29; (with_reducible refine (HO.out _).mono ?_); rintro e w' ⟨rfl, hb'⟩; obtain ⟨_, rfl⟩ := KW.go _ hb'; clear hb')
        | (go_at_call 97; (with_reducible refine (HT.out _).mono ?_); rintro e w' ⟨rfl, hb'⟩; obtain ⟨_, rfl⟩ := KW.go _ hb'; clear hb'))
      exact bd_cell_tmp Tryz.results62 rfl rfl inferInstance inferInstance ⟨rfl, KW.below _⟩)
  | true =>
    by_cases h0 : a % b = 0
    · have e : ovq true a b = a / b := if_neg (by simp [h0])
      rw [e] at HT ⊢
      rw [h0] at HO HZ
      have HZ := Lib.hid HZ
      have hz := eqB_same 0
      rw [hz] at HZ
      clear hz e h0
      generalize a / b = q at *
      generalize sg true q = z at *
      refine enter fun u => ?_
      go_enter Tryz.func62, Tryz.ntmps62
      cases s <;> cases t <;> first | exact absurd hr (by decide) | skip
      all_goals (
        clear hr hp ha hb
        go_wp2_with (first
          | ((with_reducible refine ls_skip ?_ ?_); (exact rfl); (try simp only [Act.put, List.setIfInBounds_toArray, List.set_cons_succ, List.set_cons_zero]))
          | ((with_reducible refine ck_box ?_); refine list_box rfl fun _ _ => ?_)
          | ((with_reducible refine ck_alloc ?_); refine ls_alloc inferInstance fun _ _ => ?_)
          | ((with_reducible refine ck_load ?_); first | refine ls_load rfl inferInstance inferInstance ?_ | refine ls_cell rfl inferInstance inferInstance ?_)
          | ((with_reducible refine ck_store ?_); refine ls_store rfl rfl inferInstance inferInstance inferInstance fun _ => ?_)
          | (go_at_call 29; (with_reducible refine (HO.out _).mono ?_); rintro e w' ⟨rfl, hb'⟩; obtain ⟨_, rfl⟩ := KW.go _ hb'; clear hb')
          | (go_at_call 97; (with_reducible refine (HT.out _).mono ?_); rintro e w' ⟨rfl, hb'⟩; obtain ⟨_, rfl⟩ := KW.go _ hb'; clear hb')
          | (go_at_call 27; (with_reducible refine (HZ.out _).mono ?_); rintro e w' ⟨rfl, hb'⟩; obtain ⟨_, rfl⟩ := KW.go _ hb'; clear hb'))
        exact bd_cell_tmp Tryz.results62 rfl rfl inferInstance inferInstance ⟨rfl, KW.below _⟩)
    · have e : ovq true a b = a / b + 1 := if_pos ⟨rfl, h0⟩
      have hlt := ovq_lt (r := true) (b := b) ha.out
      rw [e] at HT hlt ⊢
      rw [show eqB (a % b) 0 = false from decide_eq_false h0] at HZ
      have HZ := Lib.hid HZ
      have H1 := Lib.hid (fun w => of_any 1 (Lib.hid (by decide)) w)
      have HA := Lib.hid (fun w => wadd_fit (a / b) 1 (Lib.hid (by omega)) (Lib.hid (by have := m_big; omega)) hlt w)
      clear hlt e h0
      generalize a / b + 1 = q1 at *
      generalize a / b = q at *
      generalize a % b = k at *
      generalize sg true q1 = z at *
      refine enter fun u => ?_
      go_enter Tryz.func62, Tryz.ntmps62
      cases s <;> cases t <;> first | exact absurd hr (by decide) | skip
      all_goals (
        clear hr hp ha hb
        go_wp2_with (first
          | ((with_reducible refine ls_skip ?_ ?_); (exact rfl); (try simp only [Act.put, List.setIfInBounds_toArray, List.set_cons_succ, List.set_cons_zero]))
          | ((with_reducible refine ck_box ?_); refine list_box rfl fun _ _ => ?_)
          | ((with_reducible refine ck_alloc ?_); refine ls_alloc inferInstance fun _ _ => ?_)
          | ((with_reducible refine ck_load ?_); first | refine ls_load rfl inferInstance inferInstance ?_ | refine ls_cell rfl inferInstance inferInstance ?_)
          | ((with_reducible refine ck_store ?_); refine ls_store rfl rfl inferInstance inferInstance inferInstance fun _ => ?_)
          | (go_at_call 29; (with_reducible refine (HO.out _).mono ?_); rintro e w' ⟨rfl, hb'⟩; obtain ⟨_, rfl⟩ := KW.go _ hb'; clear hb')
          | (go_at_call 97; (with_reducible refine (HT.out _).mono ?_); rintro e w' ⟨rfl, hb'⟩; obtain ⟨_, rfl⟩ := KW.go _ hb'; clear hb')
          | (go_at_call 27; (with_reducible refine (HZ.out _).mono ?_); rintro e w' ⟨rfl, hb'⟩; obtain ⟨_, rfl⟩ := KW.go _ hb'; clear hb'))
        try simp only [Act.put, List.setIfInBounds_toArray, List.set_cons_succ, List.set_cons_zero]
        refine region_mixS [.take 1, .sole 0, .sole 2, .sole 3, .take 4, .take 5, .sole 6] _ (Sub.nil) (by kernel_rfl) (by kernel_rfl) ?_
        simp only [picksM, Mv.pick, List.filterMap_cons, List.filterMap_nil, List.getElem?_cons_zero, List.getElem?_cons_succ, Option.map_some]
        refine sm_call (f := 31) (args := #[.int .u64 1]) (by intro w; go_simp) (fun _ u => H1.out _) ?_
        try simp only [Act.put, List.setIfInBounds_toArray, List.set_cons_succ, List.set_cons_zero]
        refine so_load inferInstance rfl inferInstance inferInstance ?_
        try simp only [Act.put, List.setIfInBounds_toArray, List.set_cons_succ, List.set_cons_zero]
        refine so_call (f := 96) (args := #[wv q, wv 1]) inferInstance (by intro w; go_simp) (fun u => HA.out _) ?_
        try simp only [Act.put, List.setIfInBounds_toArray, List.set_cons_succ, List.set_cons_zero]
        refine so_value (v := .tuple #[wv q1, .bool true]) inferInstance (by intro w; go_simp) ?_
        try simp only [Act.put, List.setIfInBounds_toArray, List.set_cons_succ, List.set_cons_zero]
        refine sm_value (v := wv q1) (by intro w; go_simp) ?_
        try simp only [Act.put, List.setIfInBounds_toArray, List.set_cons_succ, List.set_cons_zero]
        refine sm_value (v := .bool true) (by intro w; go_simp) ?_
        try simp only [Act.put, List.setIfInBounds_toArray, List.set_cons_succ, List.set_cons_zero]
        refine so_store rfl rfl inferInstance inferInstance inferInstance inferInstance ?_
        try simp only [Act.put, List.setIfInBounds_toArray, List.set_cons_succ, List.set_cons_zero]
        refine sm_nil fun u7 => ?_
        go_wp2_with (first
          | ((with_reducible refine ls_skip ?_ ?_); (exact rfl); (try simp only [Act.put, List.setIfInBounds_toArray, List.set_cons_succ, List.set_cons_zero]))
          | ((with_reducible refine ck_box ?_); refine list_box rfl fun _ _ => ?_)
          | ((with_reducible refine ck_alloc ?_); refine ls_alloc inferInstance fun _ _ => ?_)
          | ((with_reducible refine ck_load ?_); first | refine ls_load rfl inferInstance inferInstance ?_ | refine ls_cell rfl inferInstance inferInstance ?_)
          | ((with_reducible refine ck_store ?_); refine ls_store rfl rfl inferInstance inferInstance inferInstance fun _ => ?_)
          | (go_at_call 29; (with_reducible refine (HO.out _).mono ?_); rintro e w' ⟨rfl, hb'⟩; obtain ⟨_, rfl⟩ := KW.go _ hb'; clear hb')
          | (go_at_call 97; (with_reducible refine (HT.out _).mono ?_); rintro e w' ⟨rfl, hb'⟩; obtain ⟨_, rfl⟩ := KW.go _ hb'; clear hb')
          | (go_at_call 27; (with_reducible refine (HZ.out _).mono ?_); rintro e w' ⟨rfl, hb'⟩; obtain ⟨_, rfl⟩ := KW.go _ hb'; clear hb'))
        exact bd_cell_tmp Tryz.results62 rfl rfl inferInstance inferInstance ⟨rfl, KW.below _⟩)
end Go.Proofs.YtacicfmalhhceaaGreatDoor.SignW

/- package sign: as an int, as a text: contracts over the translation. -/
namespace Go.Proofs.YtacicfmalhhceaaGreatDoor.SignW
open Go.RowKit
open DigM WideM WideV KM DigW WideW QuotW QuotM DecM FmtW SignM
open Go.Lib (decDigits nDigits)
theorem exec_neW {a : Act} {d : Option Tmp} {ty : TypeId} {ps : String} {af : Array Edge} {gd : Option (Nat × Bool)} {x y : Operand} {m n : Nat} {b : Bool} (hx : a.eval x = .agg (cells 8 m)) (hy : a.eval y = .agg (cells 8 n)) (hm : m < M) (hn : n < M) (hb : eqB m n = b) (w : World) :
    (execOp a.eval ⟨d, .binOp .neq 24 x y 24, ty, ps, af, gd⟩).run Tryz.prog w = .ok (.value (.bool (!b))) w := by
  have h := eqlW m n hm hn w
  rw [hb] at h
  unfold execOp
  simp only [hx, hy]
  go_simp
theorem ic_word {s : Bool} {n x : Nat} (h : wd n 0 = x) : (ic s n)[1]? = some (.int .u64 (x : Nat)) := by subst h; rfl
def inI (z : Int) : Bool := decide (-9223372036854775808 ≤ z ∧ z ≤ 9223372036854775807)
def smallV (z : Int) : Value := .tuple #[.int .i64 (if inI z then z else 0), .bool (inI z)]
set_option maxRecDepth 100000 in
set_option maxHeartbeats 3200000 in
theorem small_big (s : Bool) (a : Nat) (ha : Hid (a < M)) (h : B ≤ a) (w : World) : Calls Tryz.prog 32 #[iv s a] w (Ret (.tuple #[.int .i64 0, .bool false]) w) := by
  obtain ⟨x, hx⟩ : ∃ x, wd a 0 = x := ⟨_, rfl⟩
  have h1 := ic_word (s := s) hx
  have hxB : x < B := by rw [← hx]; exact wd_lt a 0
  have hxM : x < M := Nat.lt_trans hxB (by have := m_big; rw [B_eq]; omega)
  have hne : eqB a x = false := decide_eq_false (by omega)
  have HO := Lib.hid (fun w => of_any x (Lib.hid (by rw [← B_eq]; exact hxB)) w)
  have HE : Hid (a < M ∧ x < M ∧ eqB a x = false) := Lib.hid ⟨ha.out, hxM, hne⟩
  clear hx hxB hxM hne h ha
  refine enter fun u => ?_
  go_enter Tryz.func32, Tryz.ntmps32
  cases s
  all_goals (
    go_wp2_with (first
      | ((with_reducible refine ls_skip ?_ ?_); (exact rfl); (try simp only [Act.put, List.setIfInBounds_toArray, List.set_cons_succ, List.set_cons_zero]))
      | ((with_reducible refine ck_box ?_); refine list_box rfl fun g1 u1 => ?_))
    refine region (by kernel_rfl) (by kernel_rfl) fun _ => ?_
    refine qt_value (v := .pointer (some ⟨g1, 1, none⟩)) (by rfl) (by intro w; go_simp) ?_
    try simp only [Act.put, List.setIfInBounds_toArray, List.set_cons_succ, List.set_cons_zero]
    refine qt_load (by rfl) rfl inferInstance inferInstance ?_
    try simp only [Act.put, List.setIfInBounds_toArray, List.set_cons_succ, List.set_cons_zero]
    refine qt_value (v := .int .u64 x) (by rfl) (by intro w; go_simp) ?_
    try simp only [Act.put, List.setIfInBounds_toArray, List.set_cons_succ, List.set_cons_zero]
    refine qt_call (f := 31) (args := #[.int .u64 x]) (by rfl) (by intro w; go_simp) (fun u => HO.out _) ?_
    try simp only [Act.put, List.setIfInBounds_toArray, List.set_cons_succ, List.set_cons_zero]
    refine qt_value (v := .bool true) (by rfl) (exec_neW rfl rfl HE.out.1 HE.out.2.1 HE.out.2.2) ?_
    try simp only [Act.put, List.setIfInBounds_toArray, List.set_cons_succ, List.set_cons_zero]
    refine qt_value (v := .bool true) (by rfl) (by intro w; go_simp) ?_
    try simp only [Act.put, List.setIfInBounds_toArray, List.set_cons_succ, List.set_cons_zero]
    refine qt_skip ?hsk ?_
    case hsk => rfl
    try simp only [Act.put, List.setIfInBounds_toArray, List.set_cons_succ, List.set_cons_zero]
    refine qt_skip ?hsk ?_
    case hsk => rfl
    try simp only [Act.put, List.setIfInBounds_toArray, List.set_cons_succ, List.set_cons_zero]
    refine qt_skip ?hsk ?_
    case hsk => rfl
    try simp only [Act.put, List.setIfInBounds_toArray, List.set_cons_succ, List.set_cons_zero]
    refine qt_value (v := .bool true) (by rfl) (by intro w; go_simp) ?_
    try simp only [Act.put, List.setIfInBounds_toArray, List.set_cons_succ, List.set_cons_zero]
    refine wpQuiet_nil ?_
    rintro _ ⟨u3, rfl⟩
    go_wp2_with (fail)
    go_ret2
    exact ⟨rfl, KW.below _⟩)
set_option maxRecDepth 100000 in
set_option maxHeartbeats 3200000 in
theorem small_small (s : Bool) (a : Nat) (ha : Hid (a < B)) (w : World) : Calls Tryz.prog 32 #[iv s a] w (Ret (smallV (sg s a)) w) := by
  have h1 := ic_word (s := s) (wd_self ha.out)
  have HB : Hid (a < 18446744073709551616) := Lib.hid (by rw [← B_eq]; exact ha.out)
  have HO := Lib.hid (fun w => of_any a HB w)
  have HE : Hid (a < M) := Lib.hid (Nat.lt_trans ha.out (by have := m_big; rw [B_eq]; omega))
  clear ha
  unfold smallV inI
  refine enter fun u => ?_
  go_enter Tryz.func32, Tryz.ntmps32
  cases s
  · have es := sg_f a
    rw [es]
    by_cases h : a ≤ 9223372036854775807
    · have hg : decide ((9223372036854775807 : Int) < (a : Int)) = false := by simp; omega
      have hi : decide (-9223372036854775808 ≤ (a : Int) ∧ (a : Int) ≤ 9223372036854775807) = true := by simp; omega
      rw [hi]
      clear h hi
      go_wp2_with (first
        | ((with_reducible refine ls_skip ?_ ?_); (exact rfl); (try simp only [Act.put, List.setIfInBounds_toArray, List.set_cons_succ, List.set_cons_zero]))
        | ((with_reducible refine ck_box ?_); refine list_box rfl fun g1 u1 => ?_))
      refine region (by kernel_rfl) (by kernel_rfl) fun _ => ?_
      refine qt_value (v := .pointer (some ⟨g1, 1, none⟩)) (by rfl) (by intro w; go_simp) ?_
      try simp only [Act.put, List.setIfInBounds_toArray, List.set_cons_succ, List.set_cons_zero]
      refine qt_load (by rfl) rfl inferInstance inferInstance ?_
      try simp only [Act.put, List.setIfInBounds_toArray, List.set_cons_succ, List.set_cons_zero]
      refine qt_value (v := .int .u64 a) (by rfl) (by intro w; go_simp) ?_
      try simp only [Act.put, List.setIfInBounds_toArray, List.set_cons_succ, List.set_cons_zero]
      refine qt_call (f := 31) (args := #[.int .u64 a]) (by rfl) (by intro w; go_simp) (fun u => HO.out _) ?_
      try simp only [Act.put, List.setIfInBounds_toArray, List.set_cons_succ, List.set_cons_zero]
      refine qt_value (v := .bool false) (by rfl) (exec_neW rfl rfl HE.out HE.out (eqB_same a)) ?_
      try simp only [Act.put, List.setIfInBounds_toArray, List.set_cons_succ, List.set_cons_zero]
      refine qt_value (v := .bool false) (by rfl) (by intro w; go_simp) ?_
      try simp only [Act.put, List.setIfInBounds_toArray, List.set_cons_succ, List.set_cons_zero]
      refine qt_value (v := .int .u64 a) (by rfl) (by intro w; go_simp) ?_
      try simp only [Act.put, List.setIfInBounds_toArray, List.set_cons_succ, List.set_cons_zero]
      refine qt_value (v := .int .u64 9223372036854775807) (by rfl) (by intro w; go_simp) ?_
      try simp only [Act.put, List.setIfInBounds_toArray, List.set_cons_succ, List.set_cons_zero]
      refine qt_value (v := .bool false) (by rfl) (by intro w; go_simp) ?_
      try simp only [Act.put, List.setIfInBounds_toArray, List.set_cons_succ, List.set_cons_zero]
      refine qt_value (v := .bool false) (by rfl) (by intro w; go_simp) ?_
      try simp only [Act.put, List.setIfInBounds_toArray, List.set_cons_succ, List.set_cons_zero]
      refine wpQuiet_nil ?_
      rintro _ ⟨u3, rfl⟩
      go_wp2_with (fail)
      go_ret2
      exact ⟨ret_two (vint (by unfold wrap64; have := of_decide_eq_false hg; omega)) rfl, KW.below _⟩
    · have hg : decide ((9223372036854775807 : Int) < (a : Int)) = true := by simp; omega
      have hi : decide (-9223372036854775808 ≤ (a : Int) ∧ (a : Int) ≤ 9223372036854775807) = false := by simp; omega
      rw [hi]
      clear h hi
      go_wp2_with (first
        | ((with_reducible refine ls_skip ?_ ?_); (exact rfl); (try simp only [Act.put, List.setIfInBounds_toArray, List.set_cons_succ, List.set_cons_zero]))
        | ((with_reducible refine ck_box ?_); refine list_box rfl fun g1 u1 => ?_))
      refine region (by kernel_rfl) (by kernel_rfl) fun _ => ?_
      refine qt_value (v := .pointer (some ⟨g1, 1, none⟩)) (by rfl) (by intro w; go_simp) ?_
      try simp only [Act.put, List.setIfInBounds_toArray, List.set_cons_succ, List.set_cons_zero]
      refine qt_load (by rfl) rfl inferInstance inferInstance ?_
      try simp only [Act.put, List.setIfInBounds_toArray, List.set_cons_succ, List.set_cons_zero]
      refine qt_value (v := .int .u64 a) (by rfl) (by intro w; go_simp) ?_
      try simp only [Act.put, List.setIfInBounds_toArray, List.set_cons_succ, List.set_cons_zero]
      refine qt_call (f := 31) (args := #[.int .u64 a]) (by rfl) (by intro w; go_simp) (fun u => HO.out _) ?_
      try simp only [Act.put, List.setIfInBounds_toArray, List.set_cons_succ, List.set_cons_zero]
      refine qt_value (v := .bool false) (by rfl) (exec_neW rfl rfl HE.out HE.out (eqB_same a)) ?_
      try simp only [Act.put, List.setIfInBounds_toArray, List.set_cons_succ, List.set_cons_zero]
      refine qt_value (v := .bool false) (by rfl) (by intro w; go_simp) ?_
      try simp only [Act.put, List.setIfInBounds_toArray, List.set_cons_succ, List.set_cons_zero]
      refine qt_value (v := .int .u64 a) (by rfl) (by intro w; go_simp) ?_
      try simp only [Act.put, List.setIfInBounds_toArray, List.set_cons_succ, List.set_cons_zero]
      refine qt_value (v := .int .u64 9223372036854775807) (by rfl) (by intro w; go_simp) ?_
      try simp only [Act.put, List.setIfInBounds_toArray, List.set_cons_succ, List.set_cons_zero]
      refine qt_value (v := .bool true) (by rfl) (by intro w; go_simp) ?_
      try simp only [Act.put, List.setIfInBounds_toArray, List.set_cons_succ, List.set_cons_zero]
      refine qt_value (v := .bool true) (by rfl) (by intro w; go_simp) ?_
      try simp only [Act.put, List.setIfInBounds_toArray, List.set_cons_succ, List.set_cons_zero]
      refine wpQuiet_nil ?_
      rintro _ ⟨u3, rfl⟩
      go_wp2_with (fail)
      go_ret2
      exact ⟨rfl, KW.below _⟩
  · have es := sg_t a
    rw [es]
    by_cases h : a ≤ 9223372036854775808
    · have hg : decide ((9223372036854775808 : Int) < (a : Int)) = false := by simp; omega
      have hi : decide (-9223372036854775808 ≤ -(a : Int) ∧ -(a : Int) ≤ 9223372036854775807) = true := by simp; omega
      rw [hi]
      clear h hi
      go_wp2_with (first
        | ((with_reducible refine ls_skip ?_ ?_); (exact rfl); (try simp only [Act.put, List.setIfInBounds_toArray, List.set_cons_succ, List.set_cons_zero]))
        | ((with_reducible refine ck_box ?_); refine list_box rfl fun g1 u1 => ?_))
      refine region (by kernel_rfl) (by kernel_rfl) fun _ => ?_
      refine qt_value (v := .pointer (some ⟨g1, 1, none⟩)) (by rfl) (by intro w; go_simp) ?_
      try simp only [Act.put, List.setIfInBounds_toArray, List.set_cons_succ, List.set_cons_zero]
      refine qt_load (by rfl) rfl inferInstance inferInstance ?_
      try simp only [Act.put, List.setIfInBounds_toArray, List.set_cons_succ, List.set_cons_zero]
      refine qt_value (v := .int .u64 a) (by rfl) (by intro w; go_simp) ?_
      try simp only [Act.put, List.setIfInBounds_toArray, List.set_cons_succ, List.set_cons_zero]
      refine qt_call (f := 31) (args := #[.int .u64 a]) (by rfl) (by intro w; go_simp) (fun u => HO.out _) ?_
      try simp only [Act.put, List.setIfInBounds_toArray, List.set_cons_succ, List.set_cons_zero]
      refine qt_value (v := .bool false) (by rfl) (exec_neW rfl rfl HE.out HE.out (eqB_same a)) ?_
      try simp only [Act.put, List.setIfInBounds_toArray, List.set_cons_succ, List.set_cons_zero]
      refine qt_value (v := .bool false) (by rfl) (by intro w; go_simp) ?_
      try simp only [Act.put, List.setIfInBounds_toArray, List.set_cons_succ, List.set_cons_zero]
      refine qt_value (v := .int .u64 a) (by rfl) (by intro w; go_simp) ?_
      try simp only [Act.put, List.setIfInBounds_toArray, List.set_cons_succ, List.set_cons_zero]
      refine qt_value (v := .int .u64 9223372036854775808) (by rfl) (by intro w; go_simp) ?_
      try simp only [Act.put, List.setIfInBounds_toArray, List.set_cons_succ, List.set_cons_zero]
      refine qt_value (v := .bool false) (by rfl) (by intro w; go_simp) ?_
      try simp only [Act.put, List.setIfInBounds_toArray, List.set_cons_succ, List.set_cons_zero]
      refine qt_value (v := .bool false) (by rfl) (by intro w; go_simp) ?_
      try simp only [Act.put, List.setIfInBounds_toArray, List.set_cons_succ, List.set_cons_zero]
      refine wpQuiet_nil ?_
      rintro _ ⟨u3, rfl⟩
      go_wp2_with (fail)
      go_ret2
      exact ⟨ret_two (vint (by rw [IntKind.wrap_u64]; unfold wrap64; have := of_decide_eq_false hg; omega)) rfl, KW.below _⟩
    · have hg : decide ((9223372036854775808 : Int) < (a : Int)) = true := by simp; omega
      have hi : decide (-9223372036854775808 ≤ -(a : Int) ∧ -(a : Int) ≤ 9223372036854775807) = false := by simp; omega
      rw [hi]
      clear h hi
      go_wp2_with (first
        | ((with_reducible refine ls_skip ?_ ?_); (exact rfl); (try simp only [Act.put, List.setIfInBounds_toArray, List.set_cons_succ, List.set_cons_zero]))
        | ((with_reducible refine ck_box ?_); refine list_box rfl fun g1 u1 => ?_))
      refine region (by kernel_rfl) (by kernel_rfl) fun _ => ?_
      refine qt_value (v := .pointer (some ⟨g1, 1, none⟩)) (by rfl) (by intro w; go_simp) ?_
      try simp only [Act.put, List.setIfInBounds_toArray, List.set_cons_succ, List.set_cons_zero]
      refine qt_load (by rfl) rfl inferInstance inferInstance ?_
      try simp only [Act.put, List.setIfInBounds_toArray, List.set_cons_succ, List.set_cons_zero]
      refine qt_value (v := .int .u64 a) (by rfl) (by intro w; go_simp) ?_
      try simp only [Act.put, List.setIfInBounds_toArray, List.set_cons_succ, List.set_cons_zero]
      refine qt_call (f := 31) (args := #[.int .u64 a]) (by rfl) (by intro w; go_simp) (fun u => HO.out _) ?_
      try simp only [Act.put, List.setIfInBounds_toArray, List.set_cons_succ, List.set_cons_zero]
      refine qt_value (v := .bool false) (by rfl) (exec_neW rfl rfl HE.out HE.out (eqB_same a)) ?_
      try simp only [Act.put, List.setIfInBounds_toArray, List.set_cons_succ, List.set_cons_zero]
      refine qt_value (v := .bool false) (by rfl) (by intro w; go_simp) ?_
      try simp only [Act.put, List.setIfInBounds_toArray, List.set_cons_succ, List.set_cons_zero]
      refine qt_value (v := .int .u64 a) (by rfl) (by intro w; go_simp) ?_
      try simp only [Act.put, List.setIfInBounds_toArray, List.set_cons_succ, List.set_cons_zero]
      refine qt_value (v := .int .u64 9223372036854775808) (by rfl) (by intro w; go_simp) ?_
      try simp only [Act.put, List.setIfInBounds_toArray, List.set_cons_succ, List.set_cons_zero]
      refine qt_value (v := .bool true) (by rfl) (by intro w; go_simp) ?_
      try simp only [Act.put, List.setIfInBounds_toArray, List.set_cons_succ, List.set_cons_zero]
      refine qt_value (v := .bool true) (by rfl) (by intro w; go_simp) ?_
      try simp only [Act.put, List.setIfInBounds_toArray, List.set_cons_succ, List.set_cons_zero]
      refine wpQuiet_nil ?_
      rintro _ ⟨u3, rfl⟩
      go_wp2_with (fail)
      go_ret2
      exact ⟨rfl, KW.below _⟩
theorem wd_zero_of {a : Nat} (h : ¬ a < B) (s : Bool) : smallV (sg s a) = .tuple #[.int .i64 0, .bool false] := by
  have e : inI (sg s a) = false := decide_eq_false (by rw [B_eq] at h; cases s <;> simp only [sg_t, sg_f] <;> omega)
  unfold smallV
  rw [e]
  rfl
theorem small_any (s : Bool) (a : Nat) (ha : Hid (a < M)) (w : World) : Calls Tryz.prog 32 #[iv s a] w (Ret (smallV (sg s a)) w) := by
  by_cases h : a < B
  · exact small_small s a (Lib.hid h) w
  · rw [wd_zero_of h]
    exact small_big s a ha (by omega) w
/-- a number's digits, with its sign -/
def zdec (z : Int) : List UInt8 := if z < 0 then 45 :: decDigits z.natAbs else decDigits z.natAbs
theorem dec_small (a : Nat) (h : a < M) : (decDigits a).length ≤ 200 := by
  rw [Lib.decDigits_length]
  exact nDig_le 199 a (Nat.lt_trans h (by unfold M; rw [B_eq]; decide +kernel))
theorem minus_app (l : List UInt8) : (ByteArray.mk #[45]) ++ (ByteArray.mk l.toArray) = ByteArray.mk (45 :: l).toArray := by
  have := ba_append [45] l
  simpa using this
set_option maxRecDepth 100000 in
set_option maxHeartbeats 3200000 in
theorem stext_any (s : Bool) (a : Nat) (ha : Hid (a < M)) (w : World) (ht : Tab w) : Calls Tryz.prog 46 #[iv s a] w (Ret (vs (zdec (sg s a))) w) := by
  have HT := Lib.hid ht
  have HX := Lib.hid (fun w (ht : Tab w) => text_any a ha w ht)
  have HF := Lib.hid (fun w => fix_any s a ha w)
  clear ht
  have hl := dec_small a ha.out
  have hab := sg_abs s a
  unfold zdec
  rw [hab]
  unfold nv at HF
  rw [hab] at HF
  obtain ⟨p, hp⟩ : ∃ p, ng (sg s a) = p := ⟨_, rfl⟩
  rw [hp] at HF
  obtain ⟨t, hts⟩ : ∃ t : ByteArray, t = ⟨(decDigits a).toArray⟩ := ⟨_, rfl⟩
  have hsz : t.size ≤ 200 := by rw [hts, ba_size]; exact hl
  unfold vs at HX ⊢
  rw [← hts] at HX
  refine enter fun u => ?_
  go_enter Tryz.func46, Tryz.ntmps46
  cases p
  · rw [if_neg (of_decide_eq_false hp), ← hts]
    clear hp hts hl hab
    go_wp2_with (first
      | ((with_reducible refine ls_skip ?_ ?_); (exact rfl); (try simp only [Act.put, List.setIfInBounds_toArray, List.set_cons_succ, List.set_cons_zero]))
      | ((with_reducible refine ck_box ?_); refine list_box rfl fun _ _ => ?_)
      | ((with_reducible refine ck_load ?_); first | refine ls_load rfl inferInstance inferInstance ?_ | refine ls_cell rfl inferInstance inferInstance ?_)
      | (go_at_call 47; (with_reducible refine (HX.out _ (HT.out.later (KW.below _) (Nat.le_refl _))).mono ?_); rintro e w' ⟨rfl, hb'⟩; obtain ⟨_, rfl⟩ := KW.go _ hb'; clear hb')
      | (go_at_call 66; (with_reducible refine (HF.out _).mono ?_); rintro e w' ⟨rfl, hb'⟩; obtain ⟨_, rfl⟩ := KW.go _ hb'; clear hb'))
    go_ret
    exact ⟨rfl, KW.below _⟩
  · rw [if_pos (of_decide_eq_true hp), ← minus_app (decDigits a), ← hts]
    clear hp hts hl hab
    go_wp2_with (first
      | ((with_reducible refine ls_skip ?_ ?_); (exact rfl); (try simp only [Act.put, List.setIfInBounds_toArray, List.set_cons_succ, List.set_cons_zero]))
      | ((with_reducible refine ck_box ?_); refine list_box rfl fun _ _ => ?_)
      | ((with_reducible refine ck_load ?_); first | refine ls_load rfl inferInstance inferInstance ?_ | refine ls_cell rfl inferInstance inferInstance ?_)
      | (go_at_call 47; (with_reducible refine (HX.out _ (HT.out.later (KW.below _) (Nat.le_refl _))).mono ?_); rintro e w' ⟨rfl, hb'⟩; obtain ⟨_, rfl⟩ := KW.go _ hb'; clear hb')
      | (go_at_call 66; (with_reducible refine (HF.out _).mono ?_); rintro e w' ⟨rfl, hb'⟩; obtain ⟨_, rfl⟩ := KW.go _ hb'; clear hb'))
    go_ret
    exact ⟨rfl, KW.below _⟩
end Go.Proofs.YtacicfmalhhceaaGreatDoor.SignW

/- The document's own answers of layer 5: contracts over the translation. -/
namespace Go.Proofs.YtacicfmalhhceaaGreatDoor.SignW
open Go.RowKit
open DigM WideM WideV KM DigW WideW QuotW QuotM DecM FmtW SignM
open Go.Lib (decDigits nDigits)
set_option maxRecDepth 100000 in
set_option maxHeartbeats 3200000 in
theorem rfix_any (s : Bool) (n : Nat) (hn : Hid (n < M)) (w : World) : Calls Tryz.prog 13 #[iv s n] w (Ret (nv (sg s n)) w) := by
  rw [nv_sg]
  have heq := fun w => eqlW n 0 hn.out M_pos w
  by_cases h : n = 0
  · subst h
    rw [show (s && !eqB 0 0) = false by rw [eqB_same]; cases s <;> rfl]
    clear heq
    refine enter fun u => ?_
    go_enter Tryz.func13, Tryz.ntmps13
    go_wp2_with (first
      | ((with_reducible refine ls_skip ?_ ?_); (exact rfl); (try simp only [Act.put, List.setIfInBounds_toArray, List.set_cons_succ, List.set_cons_zero]))
      | ((with_reducible refine ck_box ?_); refine list_box rfl fun _ _ => ?_)
      | ((with_reducible refine ck_alloc ?_); refine ls_alloc inferInstance fun _ _ => ?_)
      | ((with_reducible refine ck_load ?_); first | refine ls_load rfl inferInstance inferInstance ?_ | refine ls_cell rfl inferInstance inferInstance ?_)
      | ((with_reducible refine ck_store ?_); refine ls_store rfl rfl inferInstance inferInstance inferInstance fun _ => ?_)
      | ((with_reducible refine ck_build (t := 24) (xs := #[]) ?_); refine ls_W0 ?_)
      | ((with_reducible refine ck_store ?_); refine ls_put (v := .bool _) rfl rfl inferInstance inferInstance inferInstance fun _ => ?_))
    exact bd_cell Tryz.results13 rfl inferInstance inferInstance ⟨rfl, KW.below _⟩
  · rw [show eqB n 0 = false from decide_eq_false h] at heq ⊢
    rw [show (s && !false) = s by cases s <;> rfl]
    clear h
    refine enter fun u => ?_
    go_enter Tryz.func13, Tryz.ntmps13
    go_wp2_with (first
      | ((with_reducible refine ls_skip ?_ ?_); (exact rfl); (try simp only [Act.put, List.setIfInBounds_toArray, List.set_cons_succ, List.set_cons_zero]))
      | ((with_reducible refine ck_box ?_); refine list_box rfl fun _ _ => ?_)
      | ((with_reducible refine ck_alloc ?_); refine ls_alloc inferInstance fun _ _ => ?_)
      | ((with_reducible refine ck_load ?_); first | refine ls_load rfl inferInstance inferInstance ?_ | refine ls_cell rfl inferInstance inferInstance ?_)
      | ((with_reducible refine ck_store ?_); refine ls_store rfl rfl inferInstance inferInstance inferInstance fun _ => ?_)
      | ((with_reducible refine ck_build (t := 24) (xs := #[]) ?_); refine ls_W0 ?_))
    exact bd_cell Tryz.results13 rfl inferInstance inferInstance ⟨rfl, KW.below _⟩
set_option maxRecDepth 100000 in
set_option maxHeartbeats 3200000 in
theorem rless_any (s : Bool) (n : Nat) (hn : Hid (n < M)) (w : World) : Calls Tryz.prog 116 #[iv s n] w (Ret (nv (- sg s n)) w) := by
  have HF := Lib.hid (fun w => rfix_any (!s) n hn w)
  rw [← sg_not]
  refine enter fun u => ?_
  go_enter Tryz.func116, Tryz.ntmps116
  go_wp2_with (first
    | ((with_reducible refine ls_skip ?_ ?_); (exact rfl); (try simp only [Act.put, List.setIfInBounds_toArray, List.set_cons_succ, List.set_cons_zero]))
    | ((with_reducible refine ck_box ?_); refine list_box rfl fun _ _ => ?_)
    | ((with_reducible refine ck_alloc ?_); refine ls_alloc inferInstance fun _ _ => ?_)
    | ((with_reducible refine ck_load ?_); first | refine ls_load rfl inferInstance inferInstance ?_ | refine ls_cell rfl inferInstance inferInstance ?_)
    | ((with_reducible refine ck_store ?_); refine ls_store rfl rfl inferInstance inferInstance inferInstance fun _ => ?_)
    | ((with_reducible refine ck_build (t := 26) (xs := #[(0, _), (1, _)]) ?_); refine ls_I rfl rfl ?_)
    | (go_at_call 13; (with_reducible refine (HF.out _).mono ?_); rintro e w' ⟨rfl, hb'⟩; obtain ⟨_, rfl⟩ := KW.go _ hb'; clear hb'))
  exact bd_cell Tryz.results116 rfl inferInstance inferInstance ⟨rfl, KW.below _⟩
set_option maxRecDepth 100000 in
set_option maxHeartbeats 3200000 in
theorem rof_any (z : Int) (h1 : -9223372036854775808 ≤ z) (h2 : z ≤ 9223372036854775807) (w : World) : Calls Tryz.prog 35 #[.int .i64 z] w (Ret (nv z) w) := by
  unfold nv
  by_cases h : z < 0
  · obtain ⟨m, rfl⟩ : ∃ m : Nat, z = -(m : Int) - 1 := ⟨(-z-1).toNat, by omega⟩
    have e1 : -(m : Int) - 1 + 1 = -(m : Int) := by omega
    have e2 : IntKind.i64.wrap (-(m : Int)) = -(m : Int) := by rw [IntKind.wrap_i64]; omega
    have e3 : (-(m : Int) - 1).natAbs = m + 1 := by omega
    have hd : ng (-(m : Int) - 1) = true := decide_eq_true h
    have HB : Hid (m + 1 < B) := Lib.hid (by rw [B_eq]; omega)
    rw [hd, e3]
    refine enter fun u => ?_
    go_enter Tryz.func35, Tryz.ntmps35
    have e4 : IntKind.i64.wrap (m : Int) = m := by rw [IntKind.wrap_i64]; omega
    have e5 : IntKind.u64.wrap (m : Int) = m := by rw [IntKind.wrap_u64]; omega
    have e6 : IntKind.u64.wrap ((m : Int) + 1) = ((m + 1 : Nat) : Int) := by rw [IntKind.wrap_u64]; omega
    go_wp2_with (first
      | ((with_reducible refine ls_skip ?_ ?_); (exact rfl); (try simp only [Act.put, List.setIfInBounds_toArray, List.set_cons_succ, List.set_cons_zero]))
      | ((with_reducible refine ck_alloc ?_); refine ls_alloc inferInstance fun _ _ => ?_)
      | ((with_reducible refine ck_load ?_); first | refine ls_load rfl inferInstance inferInstance ?_ | refine ls_cell rfl inferInstance inferInstance ?_)
      | ((with_reducible refine ck_store ?_); refine ls_store rfl rfl inferInstance inferInstance inferInstance fun _ => ?_)
      | ((with_reducible refine ck_build (t := 26) (xs := #[(0, _), (1, _)]) ?_); refine ls_I rfl rfl ?_)
      | ((with_reducible refine ck_build (t := 24) (xs := #[(0, _)]) ?_); refine ls_W1 rfl HB ?_))
    exact bd_cell Tryz.results35 rfl inferInstance inferInstance ⟨rfl, KW.below _⟩
  · obtain ⟨m, rfl⟩ : ∃ m : Nat, z = (m : Int) := ⟨z.toNat, by omega⟩
    have hd : ng (m : Int) = false := decide_eq_false h
    have HB : Hid (m < B) := Lib.hid (by rw [B_eq]; omega)
    rw [hd, Int.natAbs_natCast]
    refine enter fun u => ?_
    go_enter Tryz.func35, Tryz.ntmps35
    go_wp2_with (first
      | ((with_reducible refine ls_skip ?_ ?_); (exact rfl); (try simp only [Act.put, List.setIfInBounds_toArray, List.set_cons_succ, List.set_cons_zero]))
      | ((with_reducible refine ck_alloc ?_); refine ls_alloc inferInstance fun _ _ => ?_)
      | ((with_reducible refine ck_load ?_); first | refine ls_load rfl inferInstance inferInstance ?_ | refine ls_cell rfl inferInstance inferInstance ?_)
      | ((with_reducible refine ck_store ?_); refine ls_store rfl rfl inferInstance inferInstance inferInstance fun _ => ?_)
      | ((with_reducible refine ck_build (t := 26) (xs := #[(1, _)]) ?_); refine ls_I1 rfl ?_)
      | ((with_reducible refine ck_build (t := 24) (xs := #[(0, _)]) ?_); refine ls_W1 rfl HB ?_))
    exact bd_cell Tryz.results35 rfl inferInstance inferInstance ⟨rfl, KW.below _⟩
set_option maxRecDepth 100000 in
set_option maxHeartbeats 6400000 in
theorem radd_fit (s : Bool) (a b : Nat) (ha : Hid (a < M)) (hb : Hid (b < M)) (hf : a + b < M) (w : World) : Calls Tryz.prog 81 #[iv s a, iv s b] w (Ret (fv (sg s a + sg s b)) w) := by
  have HDA := Lib.hid (fun w => digits32_any a ha w)
  have HDB := Lib.hid (fun w => digits32_any b hb w)
  rw [← sg_same, fv_fit (by rw [sg_abs]; exact hf)]
  have HF := Lib.hid (fun (d : Nat) (hd : d < M) w => rfix_any s d (Lib.hid hd) w)
  refine enter fun u => ?_
  go_enter Tryz.func81, Tryz.ntmps81
  go_wp2_with (first
    | ((with_reducible refine ls_skip ?_ ?_); (exact rfl); (try simp only [Act.put, List.setIfInBounds_toArray, List.set_cons_succ, List.set_cons_zero]))
    | ((with_reducible refine ck_box ?_); refine list_box rfl fun _ _ => ?_)
    | ((with_reducible refine ck_alloc ?_); refine ls_alloc inferInstance fun _ _ => ?_))
  try simp only [Act.put, List.setIfInBounds_toArray, List.set_cons_succ, List.set_cons_zero]
  refine region_mix [(true, 0), (true, 1), (true, 3), (true, 4), (false, 2), (false, 5), (false, 6), (false, 7)] _ (Sub.both (h := Sub.both (h := Sub.both (h := Sub.nil)))) (by kernel_rfl) (by kernel_rfl) (fun _ _ _ _ _ h => by first | (simp only [Exit.then, bodyPost, defers_put] at h ⊢; exact h) | (simp only [Exit.then, Exit.inBlock, bodyPost, defers_put] at h ⊢; exact h)) ?_
  intro u5 _
  simp only [picks, List.filterMap_cons, List.filterMap_nil, List.getElem?_cons_zero, List.getElem?_cons_succ, Option.map_some]
  refine mixg_value (v := _) (by rfl) (exec_mag rfl) ?_
  try simp only [Act.put, List.setIfInBounds_toArray, List.set_cons_succ, List.set_cons_zero]
  refine mixg_part (by rfl) rfl inferInstance inferInstance ?_
  try simp only [Act.put, List.setIfInBounds_toArray, List.set_cons_succ, List.set_cons_zero]
  refine mixg_value (v := _) (by rfl) (exec_mag rfl) ?_
  try simp only [Act.put, List.setIfInBounds_toArray, List.set_cons_succ, List.set_cons_zero]
  refine mixg_part (by rfl) rfl inferInstance inferInstance ?_
  try simp only [Act.put, List.setIfInBounds_toArray, List.set_cons_succ, List.set_cons_zero]
  refine mixg_enter (f := 68) (args := #[wv a]) (by rfl) (by go_simp) ?_
  refine (HDA.out _).mono ?_
  rintro e w1 ⟨v1, x, rfl, ⟨hx1, hx2, hx3⟩, o1, b1⟩
  obtain ⟨u6, rfl⟩ := u5.go b1
  refine ⟨v1, rfl, KW.weak (h := inferInstance) u6, ?_⟩
  try simp only [Act.put, List.setIfInBounds_toArray, List.set_cons_succ, List.set_cons_zero]
  refine mixg_enter (f := 68) (args := #[wv b]) (by rfl) (by go_simp) ?_
  refine (HDB.out _).mono ?_
  rintro e w2 ⟨v2, y, rfl, ⟨hy1, hy2, hy3⟩, o2, b2⟩
  have R1 := o1.rd.later b2 (Nat.le_refl _)
  have R2 := o2.rd
  obtain ⟨u7, rfl⟩ := u6.go b2
  refine ⟨v2, rfl, KW.weak (h := inferInstance) u7, ?_⟩
  clear o1 o2 b1 b2 HDA HDB
  try simp only [Act.put, List.setIfInBounds_toArray, List.set_cons_succ, List.set_cons_zero]
  refine mixg_then (v := v1) (by rfl) (by go_simp) (KW.weak (h := inferInstance) u7) ?_
  try simp only [Act.put, List.setIfInBounds_toArray, List.set_cons_succ, List.set_cons_zero]
  refine mixg_then (v := v2) (by rfl) (by go_simp) (KW.weak (h := inferInstance) u7) ?_
  try simp only [Act.put, List.setIfInBounds_toArray, List.set_cons_succ, List.set_cons_zero]
  refine mix_nil ?_
  go_wp2_with (first
    | ((with_reducible refine ls_skip ?_ ?_); (exact rfl); (try simp only [Act.put, List.setIfInBounds_toArray, List.set_cons_succ, List.set_cons_zero]))
    | ((with_reducible refine ck_load ?_); first | refine ls_load rfl inferInstance inferInstance ?_ | refine ls_cell rfl inferInstance inferInstance ?_))
  refine (plus_any v1 v2 x y _ R1 R2 hx1 hy1 (by omega) (by omega)).mono ?_
  rintro e w3 ⟨v3, z, rfl, ⟨hz1, hz2, hz3⟩, o3, b3⟩
  have R3 := o3.rd
  obtain ⟨u8, rfl⟩ := u7.go b3
  have FW := refWide_any v3 z _ R3 hz1 (by omega)
  rw [hz2, hx2, hy2] at FW
  clear o3 b3 R3 hz1 hz2 hz3 hx1 hx2 hx3 hy1 hy2 hy3 R1 R2
  rw [low_of hf, show fitB (a + b) = true from decide_eq_true hf] at FW
  have HF := Lib.hid (HF.out (a + b) hf)
  clear hf
  generalize a + b = d at *
  unfold nv at HF ⊢
  generalize sg s d = k at *
  go_wp2_with (fail)
  refine FW.mono ?_
  rintro e w4 ⟨rfl, b4⟩
  obtain ⟨u9, rfl⟩ := u8.go b4
  clear b4 FW
  go_wp2_with (first
    | ((with_reducible refine ls_skip ?_ ?_); (exact rfl); (try simp only [Act.put, List.setIfInBounds_toArray, List.set_cons_succ, List.set_cons_zero]))
    | ((with_reducible refine ck_alloc ?_); refine ls_alloc inferInstance fun _ _ => ?_)
    | ((with_reducible refine ck_load ?_); first | refine ls_load rfl inferInstance inferInstance ?_ | refine ls_cell rfl inferInstance inferInstance ?_)
    | ((with_reducible refine ck_store ?_); refine ls_store rfl rfl inferInstance inferInstance inferInstance fun _ => ?_)
    | ((with_reducible refine ck_build (t := 26) (xs := #[(0, _), (1, _)]) ?_); refine ls_I rfl rfl ?_)
    | (go_at_call 13; (with_reducible refine (HF.out _).mono ?_); rintro e w' ⟨rfl, hb'⟩; obtain ⟨_, rfl⟩ := KW.go _ hb'; clear hb'))
  exact bd_cell_tmp Tryz.results81 rfl rfl inferInstance inferInstance ⟨rfl, KW.below _⟩
set_option maxRecDepth 100000 in
set_option maxHeartbeats 6400000 in
theorem radd_big (s : Bool) (a b : Nat) (ha : Hid (a < M)) (hb : Hid (b < M)) (hf : ¬ a + b < M) (w : World) : Calls Tryz.prog 81 #[iv s a, iv s b] w (Ret (fv (sg s a + sg s b)) w) := by
  have HDA := Lib.hid (fun w => digits32_any a ha w)
  have HDB := Lib.hid (fun w => digits32_any b hb w)
  rw [← sg_same, fv_big (by rw [sg_abs]; exact hf)]
  have HF := Lib.hid (fun (d : Nat) (hd : d < M) w => rfix_any s d (Lib.hid hd) w)
  refine enter fun u => ?_
  go_enter Tryz.func81, Tryz.ntmps81
  go_wp2_with (first
    | ((with_reducible refine ls_skip ?_ ?_); (exact rfl); (try simp only [Act.put, List.setIfInBounds_toArray, List.set_cons_succ, List.set_cons_zero]))
    | ((with_reducible refine ck_box ?_); refine list_box rfl fun _ _ => ?_)
    | ((with_reducible refine ck_alloc ?_); refine ls_alloc inferInstance fun _ _ => ?_))
  try simp only [Act.put, List.setIfInBounds_toArray, List.set_cons_succ, List.set_cons_zero]
  refine region_mix [(true, 0), (true, 1), (true, 3), (true, 4), (false, 2), (false, 5), (false, 6), (false, 7)] _ (Sub.both (h := Sub.both (h := Sub.both (h := Sub.nil)))) (by kernel_rfl) (by kernel_rfl) (fun _ _ _ _ _ h => by first | (simp only [Exit.then, bodyPost, defers_put] at h ⊢; exact h) | (simp only [Exit.then, Exit.inBlock, bodyPost, defers_put] at h ⊢; exact h)) ?_
  intro u5 _
  simp only [picks, List.filterMap_cons, List.filterMap_nil, List.getElem?_cons_zero, List.getElem?_cons_succ, Option.map_some]
  refine mixg_value (v := _) (by rfl) (exec_mag rfl) ?_
  try simp only [Act.put, List.setIfInBounds_toArray, List.set_cons_succ, List.set_cons_zero]
  refine mixg_part (by rfl) rfl inferInstance inferInstance ?_
  try simp only [Act.put, List.setIfInBounds_toArray, List.set_cons_succ, List.set_cons_zero]
  refine mixg_value (v := _) (by rfl) (exec_mag rfl) ?_
  try simp only [Act.put, List.setIfInBounds_toArray, List.set_cons_succ, List.set_cons_zero]
  refine mixg_part (by rfl) rfl inferInstance inferInstance ?_
  try simp only [Act.put, List.setIfInBounds_toArray, List.set_cons_succ, List.set_cons_zero]
  refine mixg_enter (f := 68) (args := #[wv a]) (by rfl) (by go_simp) ?_
  refine (HDA.out _).mono ?_
  rintro e w1 ⟨v1, x, rfl, ⟨hx1, hx2, hx3⟩, o1, b1⟩
  obtain ⟨u6, rfl⟩ := u5.go b1
  refine ⟨v1, rfl, KW.weak (h := inferInstance) u6, ?_⟩
  try simp only [Act.put, List.setIfInBounds_toArray, List.set_cons_succ, List.set_cons_zero]
  refine mixg_enter (f := 68) (args := #[wv b]) (by rfl) (by go_simp) ?_
  refine (HDB.out _).mono ?_
  rintro e w2 ⟨v2, y, rfl, ⟨hy1, hy2, hy3⟩, o2, b2⟩
  have R1 := o1.rd.later b2 (Nat.le_refl _)
  have R2 := o2.rd
  obtain ⟨u7, rfl⟩ := u6.go b2
  refine ⟨v2, rfl, KW.weak (h := inferInstance) u7, ?_⟩
  clear o1 o2 b1 b2 HDA HDB
  try simp only [Act.put, List.setIfInBounds_toArray, List.set_cons_succ, List.set_cons_zero]
  refine mixg_then (v := v1) (by rfl) (by go_simp) (KW.weak (h := inferInstance) u7) ?_
  try simp only [Act.put, List.setIfInBounds_toArray, List.set_cons_succ, List.set_cons_zero]
  refine mixg_then (v := v2) (by rfl) (by go_simp) (KW.weak (h := inferInstance) u7) ?_
  try simp only [Act.put, List.setIfInBounds_toArray, List.set_cons_succ, List.set_cons_zero]
  refine mix_nil ?_
  go_wp2_with (first
    | ((with_reducible refine ls_skip ?_ ?_); (exact rfl); (try simp only [Act.put, List.setIfInBounds_toArray, List.set_cons_succ, List.set_cons_zero]))
    | ((with_reducible refine ck_load ?_); first | refine ls_load rfl inferInstance inferInstance ?_ | refine ls_cell rfl inferInstance inferInstance ?_))
  refine (plus_any v1 v2 x y _ R1 R2 hx1 hy1 (by omega) (by omega)).mono ?_
  rintro e w3 ⟨v3, z, rfl, ⟨hz1, hz2, hz3⟩, o3, b3⟩
  have R3 := o3.rd
  obtain ⟨u8, rfl⟩ := u7.go b3
  have FW := refWide_any v3 z _ R3 hz1 (by omega)
  rw [hz2, hx2, hy2] at FW
  clear o3 b3 R3 hz1 hz2 hz3 hx1 hx2 hx3 hy1 hy2 hy3 R1 R2
  rw [show fitB (a + b) = false from decide_eq_false hf] at FW
  clear hf HF
  generalize low (a + b) = d at *
  go_wp2_with (fail)
  refine FW.mono ?_
  rintro e w4 ⟨rfl, b4⟩
  obtain ⟨u9, rfl⟩ := u8.go b4
  clear b4 FW
  go_wp2_with (first
    | ((with_reducible refine ls_skip ?_ ?_); (exact rfl); (try simp only [Act.put, List.setIfInBounds_toArray, List.set_cons_succ, List.set_cons_zero]))
    | ((with_reducible refine ck_alloc ?_); refine ls_alloc inferInstance fun _ _ => ?_)
    | ((with_reducible refine ck_load ?_); first | refine ls_load rfl inferInstance inferInstance ?_ | refine ls_cell rfl inferInstance inferInstance ?_)
    | ((with_reducible refine ck_store ?_); refine ls_store rfl rfl inferInstance inferInstance inferInstance fun _ => ?_)
    | ((with_reducible refine ck_build (t := 26) (xs := #[]) ?_); refine ls_I0 ?_))
  exact bd_cell_tmp Tryz.results81 rfl rfl inferInstance inferInstance ⟨rfl, KW.below _⟩
set_option maxRecDepth 100000 in
set_option maxHeartbeats 6400000 in
theorem radd_lt (s t : Bool) (a b : Nat) (ha : Hid (a < M)) (hb : Hid (b < M)) (hst : s ≠ t) (hab : a < b) (w : World) : Calls Tryz.prog 81 #[iv s a, iv t b] w (Ret (fv (sg s a + sg t b)) w) := by
  have HDA := Lib.hid (fun w => digits32_any a ha w)
  have HDB := Lib.hid (fun w => digits32_any b hb w)
  rw [fv_fit (apart_lt ha.out hb.out hst)]
  have hd : b - a < M := by have := ha.out; have := hb.out; omega
  have HF := Lib.hid (fun w => rfix_any t (b - a) (Lib.hid hd) w)
  have hL : low (b - a) = b - a := low_of hd
  have hB : fitB (b - a) = true := decide_eq_true hd
  rw [show sg s a + sg t b = sg t (b - a) by rw [Int.add_comm, ← sg_apart (Ne.symm hst) (by omega : a ≤ b)]]
  clear hd
  refine enter fun u => ?_
  go_enter Tryz.func81, Tryz.ntmps81
  go_wp2_with (first
    | ((with_reducible refine ls_skip ?_ ?_); (exact rfl); (try simp only [Act.put, List.setIfInBounds_toArray, List.set_cons_succ, List.set_cons_zero]))
    | ((with_reducible refine ck_box ?_); refine list_box rfl fun _ _ => ?_)
    | ((with_reducible refine ck_alloc ?_); refine ls_alloc inferInstance fun _ _ => ?_))
  try simp only [Act.put, List.setIfInBounds_toArray, List.set_cons_succ, List.set_cons_zero]
  refine region_mix [(true, 0), (true, 1), (true, 3), (true, 4), (false, 2), (false, 5), (false, 6), (false, 7)] _ (Sub.both (h := Sub.both (h := Sub.both (h := Sub.nil)))) (by kernel_rfl) (by kernel_rfl) (fun _ _ _ _ _ h => by first | (simp only [Exit.then, bodyPost, defers_put] at h ⊢; exact h) | (simp only [Exit.then, Exit.inBlock, bodyPost, defers_put] at h ⊢; exact h)) ?_
  intro u5 _
  simp only [picks, List.filterMap_cons, List.filterMap_nil, List.getElem?_cons_zero, List.getElem?_cons_succ, Option.map_some]
  refine mixg_value (v := _) (by rfl) (exec_mag rfl) ?_
  try simp only [Act.put, List.setIfInBounds_toArray, List.set_cons_succ, List.set_cons_zero]
  refine mixg_part (by rfl) rfl inferInstance inferInstance ?_
  try simp only [Act.put, List.setIfInBounds_toArray, List.set_cons_succ, List.set_cons_zero]
  refine mixg_value (v := _) (by rfl) (exec_mag rfl) ?_
  try simp only [Act.put, List.setIfInBounds_toArray, List.set_cons_succ, List.set_cons_zero]
  refine mixg_part (by rfl) rfl inferInstance inferInstance ?_
  try simp only [Act.put, List.setIfInBounds_toArray, List.set_cons_succ, List.set_cons_zero]
  refine mixg_enter (f := 68) (args := #[wv a]) (by rfl) (by go_simp) ?_
  refine (HDA.out _).mono ?_
  rintro e w1 ⟨v1, x, rfl, ⟨hx1, hx2, hx3⟩, o1, b1⟩
  obtain ⟨u6, rfl⟩ := u5.go b1
  refine ⟨v1, rfl, KW.weak (h := inferInstance) u6, ?_⟩
  try simp only [Act.put, List.setIfInBounds_toArray, List.set_cons_succ, List.set_cons_zero]
  refine mixg_enter (f := 68) (args := #[wv b]) (by rfl) (by go_simp) ?_
  refine (HDB.out _).mono ?_
  rintro e w2 ⟨v2, y, rfl, ⟨hy1, hy2, hy3⟩, o2, b2⟩
  have R1 := o1.rd.later b2 (Nat.le_refl _)
  have R2 := o2.rd
  obtain ⟨u7, rfl⟩ := u6.go b2
  refine ⟨v2, rfl, KW.weak (h := inferInstance) u7, ?_⟩
  clear o1 o2 b1 b2 HDA HDB
  try simp only [Act.put, List.setIfInBounds_toArray, List.set_cons_succ, List.set_cons_zero]
  refine mixg_then (v := v1) (by rfl) (by go_simp) (KW.weak (h := inferInstance) u7) ?_
  try simp only [Act.put, List.setIfInBounds_toArray, List.set_cons_succ, List.set_cons_zero]
  refine mixg_then (v := v2) (by rfl) (by go_simp) (KW.weak (h := inferInstance) u7) ?_
  try simp only [Act.put, List.setIfInBounds_toArray, List.set_cons_succ, List.set_cons_zero]
  refine mix_nil ?_
  have FL := less_any v1 v2 x y u7.w R1 R2 hx1 hy1 (by omega) (by omega)
  rw [show lessB x y = true by unfold lessB; rw [hx2, hy2]; exact decide_eq_true hab] at FL
  cases s <;> cases t <;> first | exact absurd rfl hst | skip
  all_goals (
    go_wp2_with (first
      | ((with_reducible refine ls_skip ?_ ?_); (exact rfl); (try simp only [Act.put, List.setIfInBounds_toArray, List.set_cons_succ, List.set_cons_zero]))
      | ((with_reducible refine ck_load ?_); first | refine ls_load rfl inferInstance inferInstance ?_ | refine ls_cell rfl inferInstance inferInstance ?_))
    refine FL.mono ?_
    rintro e w' ⟨rfl, rfl⟩
    clear FL
    go_wp2_with (first
      | ((with_reducible refine ls_skip ?_ ?_); (exact rfl); (try simp only [Act.put, List.setIfInBounds_toArray, List.set_cons_succ, List.set_cons_zero]))
      | ((with_reducible refine ck_load ?_); first | refine ls_load rfl inferInstance inferInstance ?_ | refine ls_cell rfl inferInstance inferInstance ?_))
    refine (minus_any v2 v1 y x _ R2 R1 hy1 hx1 (Lib.hid (by rw [hx2, hy2]; omega)) (by omega) (by omega)).mono ?_
    rintro e w3 ⟨v3, z, rfl, ⟨hz1, hz2, hz3⟩, o3, b3⟩
    have R3 := o3.rd
    obtain ⟨u8, rfl⟩ := u7.go b3
    have FW := refWide_any v3 z _ R3 hz1 (by omega)
    rw [hz2, hx2, hy2, hL, hB] at FW
    clear o3 b3 R3 hz1 hz2 hz3 hx1 hx2 hx3 hy1 hy2 hy3 R1 R2 hL hB
    generalize b - a = d at *
    unfold nv at HF ⊢
    go_wp2_with (fail)
    refine FW.mono ?_
    rintro e w4 ⟨rfl, b4⟩
    obtain ⟨u9, rfl⟩ := u8.go b4
    clear b4 FW
    go_wp2_with (first
      | ((with_reducible refine ls_skip ?_ ?_); (exact rfl); (try simp only [Act.put, List.setIfInBounds_toArray, List.set_cons_succ, List.set_cons_zero]))
      | ((with_reducible refine ck_alloc ?_); refine ls_alloc inferInstance fun _ _ => ?_)
      | ((with_reducible refine ck_load ?_); first | refine ls_load rfl inferInstance inferInstance ?_ | refine ls_cell rfl inferInstance inferInstance ?_)
      | ((with_reducible refine ck_store ?_); refine ls_store rfl rfl inferInstance inferInstance inferInstance fun _ => ?_)
      | ((with_reducible refine ck_build (t := 26) (xs := #[(0, _), (1, _)]) ?_); refine ls_I rfl rfl ?_)
      | (go_at_call 13; (with_reducible refine (HF.out _).mono ?_); rintro e w' ⟨rfl, hb'⟩; obtain ⟨_, rfl⟩ := KW.go _ hb'; clear hb'))
    exact bd_cell_tmp Tryz.results81 rfl rfl inferInstance inferInstance ⟨rfl, KW.below _⟩)
set_option maxRecDepth 100000 in
set_option maxHeartbeats 6400000 in
theorem radd_ge (s t : Bool) (a b : Nat) (ha : Hid (a < M)) (hb : Hid (b < M)) (hst : s ≠ t) (hab : ¬ a < b) (w : World) : Calls Tryz.prog 81 #[iv s a, iv t b] w (Ret (fv (sg s a + sg t b)) w) := by
  have HDA := Lib.hid (fun w => digits32_any a ha w)
  have HDB := Lib.hid (fun w => digits32_any b hb w)
  rw [fv_fit (apart_lt ha.out hb.out hst)]
  have hd : a - b < M := by have := ha.out; have := hb.out; omega
  have HF := Lib.hid (fun w => rfix_any s (a - b) (Lib.hid hd) w)
  have hL : low (a - b) = a - b := low_of hd
  have hB : fitB (a - b) = true := decide_eq_true hd
  rw [show sg s a + sg t b = sg s (a - b) by rw [← sg_apart hst (by omega : b ≤ a)]]
  clear hd
  refine enter fun u => ?_
  go_enter Tryz.func81, Tryz.ntmps81
  go_wp2_with (first
    | ((with_reducible refine ls_skip ?_ ?_); (exact rfl); (try simp only [Act.put, List.setIfInBounds_toArray, List.set_cons_succ, List.set_cons_zero]))
    | ((with_reducible refine ck_box ?_); refine list_box rfl fun _ _ => ?_)
    | ((with_reducible refine ck_alloc ?_); refine ls_alloc inferInstance fun _ _ => ?_))
  try simp only [Act.put, List.setIfInBounds_toArray, List.set_cons_succ, List.set_cons_zero]
  refine region_mix [(true, 0), (true, 1), (true, 3), (true, 4), (false, 2), (false, 5), (false, 6), (false, 7)] _ (Sub.both (h := Sub.both (h := Sub.both (h := Sub.nil)))) (by kernel_rfl) (by kernel_rfl) (fun _ _ _ _ _ h => by first | (simp only [Exit.then, bodyPost, defers_put] at h ⊢; exact h) | (simp only [Exit.then, Exit.inBlock, bodyPost, defers_put] at h ⊢; exact h)) ?_
  intro u5 _
  simp only [picks, List.filterMap_cons, List.filterMap_nil, List.getElem?_cons_zero, List.getElem?_cons_succ, Option.map_some]
  refine mixg_value (v := _) (by rfl) (exec_mag rfl) ?_
  try simp only [Act.put, List.setIfInBounds_toArray, List.set_cons_succ, List.set_cons_zero]
  refine mixg_part (by rfl) rfl inferInstance inferInstance ?_
  try simp only [Act.put, List.setIfInBounds_toArray, List.set_cons_succ, List.set_cons_zero]
  refine mixg_value (v := _) (by rfl) (exec_mag rfl) ?_
  try simp only [Act.put, List.setIfInBounds_toArray, List.set_cons_succ, List.set_cons_zero]
  refine mixg_part (by rfl) rfl inferInstance inferInstance ?_
  try simp only [Act.put, List.setIfInBounds_toArray, List.set_cons_succ, List.set_cons_zero]
  refine mixg_enter (f := 68) (args := #[wv a]) (by rfl) (by go_simp) ?_
  refine (HDA.out _).mono ?_
  rintro e w1 ⟨v1, x, rfl, ⟨hx1, hx2, hx3⟩, o1, b1⟩
  obtain ⟨u6, rfl⟩ := u5.go b1
  refine ⟨v1, rfl, KW.weak (h := inferInstance) u6, ?_⟩
  try simp only [Act.put, List.setIfInBounds_toArray, List.set_cons_succ, List.set_cons_zero]
  refine mixg_enter (f := 68) (args := #[wv b]) (by rfl) (by go_simp) ?_
  refine (HDB.out _).mono ?_
  rintro e w2 ⟨v2, y, rfl, ⟨hy1, hy2, hy3⟩, o2, b2⟩
  have R1 := o1.rd.later b2 (Nat.le_refl _)
  have R2 := o2.rd
  obtain ⟨u7, rfl⟩ := u6.go b2
  refine ⟨v2, rfl, KW.weak (h := inferInstance) u7, ?_⟩
  clear o1 o2 b1 b2 HDA HDB
  try simp only [Act.put, List.setIfInBounds_toArray, List.set_cons_succ, List.set_cons_zero]
  refine mixg_then (v := v1) (by rfl) (by go_simp) (KW.weak (h := inferInstance) u7) ?_
  try simp only [Act.put, List.setIfInBounds_toArray, List.set_cons_succ, List.set_cons_zero]
  refine mixg_then (v := v2) (by rfl) (by go_simp) (KW.weak (h := inferInstance) u7) ?_
  try simp only [Act.put, List.setIfInBounds_toArray, List.set_cons_succ, List.set_cons_zero]
  refine mix_nil ?_
  have FL := less_any v1 v2 x y u7.w R1 R2 hx1 hy1 (by omega) (by omega)
  rw [show lessB x y = false by unfold lessB; rw [hx2, hy2]; exact decide_eq_false hab] at FL
  cases s <;> cases t <;> first | exact absurd rfl hst | skip
  all_goals (
    go_wp2_with (first
      | ((with_reducible refine ls_skip ?_ ?_); (exact rfl); (try simp only [Act.put, List.setIfInBounds_toArray, List.set_cons_succ, List.set_cons_zero]))
      | ((with_reducible refine ck_load ?_); first | refine ls_load rfl inferInstance inferInstance ?_ | refine ls_cell rfl inferInstance inferInstance ?_))
    refine FL.mono ?_
    rintro e w' ⟨rfl, rfl⟩
    clear FL
    go_wp2_with (first
      | ((with_reducible refine ls_skip ?_ ?_); (exact rfl); (try simp only [Act.put, List.setIfInBounds_toArray, List.set_cons_succ, List.set_cons_zero]))
      | ((with_reducible refine ck_load ?_); first | refine ls_load rfl inferInstance inferInstance ?_ | refine ls_cell rfl inferInstance inferInstance ?_))
    refine (minus_any v1 v2 x y _ R1 R2 hx1 hy1 (Lib.hid (by rw [hx2, hy2]; omega)) (by omega) (by omega)).mono ?_
    rintro e w3 ⟨v3, z, rfl, ⟨hz1, hz2, hz3⟩, o3, b3⟩
    have R3 := o3.rd
    obtain ⟨u8, rfl⟩ := u7.go b3
    have FW := refWide_any v3 z _ R3 hz1 (by omega)
    rw [hz2, hx2, hy2, hL, hB] at FW
    clear o3 b3 R3 hz1 hz2 hz3 hx1 hx2 hx3 hy1 hy2 hy3 R1 R2 hL hB
    generalize a - b = d at *
    unfold nv at HF ⊢
    go_wp2_with (fail)
    refine FW.mono ?_
    rintro e w4 ⟨rfl, b4⟩
    obtain ⟨u9, rfl⟩ := u8.go b4
    clear b4 FW
    go_wp2_with (first
      | ((with_reducible refine ls_skip ?_ ?_); (exact rfl); (try simp only [Act.put, List.setIfInBounds_toArray, List.set_cons_succ, List.set_cons_zero]))
      | ((with_reducible refine ck_alloc ?_); refine ls_alloc inferInstance fun _ _ => ?_)
      | ((with_reducible refine ck_load ?_); first | refine ls_load rfl inferInstance inferInstance ?_ | refine ls_cell rfl inferInstance inferInstance ?_)
      | ((with_reducible refine ck_store ?_); refine ls_store rfl rfl inferInstance inferInstance inferInstance fun _ => ?_)
      | ((with_reducible refine ck_build (t := 26) (xs := #[(0, _), (1, _)]) ?_); refine ls_I rfl rfl ?_)
      | (go_at_call 13; (with_reducible refine (HF.out _).mono ?_); rintro e w' ⟨rfl, hb'⟩; obtain ⟨_, rfl⟩ := KW.go _ hb'; clear hb'))
    exact bd_cell_tmp Tryz.results81 rfl rfl inferInstance inferInstance ⟨rfl, KW.below _⟩)
theorem radd_any (s t : Bool) (a b : Nat) (ha : Hid (a < M)) (hb : Hid (b < M)) (w : World) : Calls Tryz.prog 81 #[iv s a, iv t b] w (Ret (fv (sg s a + sg t b)) w) := by
  by_cases h : s = t
  · subst h
    by_cases hf : a + b < M
    · exact radd_fit s a b ha hb hf w
    · exact radd_big s a b ha hb hf w
  · by_cases hab : a < b
    · exact radd_lt s t a b ha hb h hab w
    · exact radd_ge s t a b ha hb h hab w
end Go.Proofs.YtacicfmalhhceaaGreatDoor.SignW

/- The document's own answers of layer 5: product, order, digits: contracts over the translation. -/
namespace Go.Proofs.YtacicfmalhhceaaGreatDoor.SignW
open Go.RowKit
open DigM WideM WideV KM DigW WideW QuotW QuotM DecM FmtW SignM
open Go.Lib (decDigits nDigits)
set_option maxRecDepth 100000 in
set_option maxHeartbeats 12800000 in
theorem rmul_fit (s t : Bool) (a b : Nat) (ha : Hid (a < M)) (hb : Hid (b < M)) (hf : a * b < M) (w : World) : Calls Tryz.prog 75 #[iv s a, iv t b] w (Ret (fv (sg s a * sg t b)) w) := by
  have HDA := Lib.hid (fun w => digits32_any a ha w)
  have HDB := Lib.hid (fun w => digits32_any b hb w)
  obtain ⟨r, hr⟩ : ∃ r, r = (s != t) := ⟨_, rfl⟩
  rw [← sg_mul, fv_fit (by rw [sg_abs]; exact hf), ← hr]
  have hL : low (a * b) = a * b := low_of hf
  have hBt : fitB (a * b) = true := decide_eq_true hf
  have HF := Lib.hid (fun w => rfix_any r (a * b) (Lib.hid hf) w)
  obtain ⟨q, hq⟩ : ∃ q, a * b = q := ⟨_, rfl⟩
  rw [hq] at HF ⊢
  rw [hq] at hL hBt
  have hx0 := hq
  clear hf
  refine enter fun u => ?_
  go_enter Tryz.func75, Tryz.ntmps75
  go_wp2_with (first
    | ((with_reducible refine ls_skip ?_ ?_); (exact rfl); (try simp only [Act.put, List.setIfInBounds_toArray, List.set_cons_succ, List.set_cons_zero]))
    | ((with_reducible refine ck_box ?_); refine list_box rfl fun _ _ => ?_)
    | ((with_reducible refine ck_alloc ?_); refine ls_alloc inferInstance fun _ _ => ?_))
  try simp only [Act.put, List.setIfInBounds_toArray, List.set_cons_succ, List.set_cons_zero]
  refine region_float [(true, 0), (true, 1), (true, 3), (true, 4), (false, 2), (false, 5), (false, 6), (false, 7), (true, 8), (true, 9), (true, 10)] 11 [(false, 12), (false, 13)] _ _ (Sub.both (h := Sub.both (h := Sub.both (h := Sub.nil)))) (by kernel_rfl) rfl (by kernel_rfl) (fun _ _ _ _ _ h => by first | (simp only [Exit.then, bodyPost, defers_put] at h ⊢; exact h) | (simp only [Exit.then, Exit.inBlock, bodyPost, defers_put] at h ⊢; exact h)) ?_
  intro u5 _
  simp only [picks, List.filterMap_cons, List.filterMap_nil, List.getElem?_cons_zero, List.getElem?_cons_succ, Option.map_some]
  refine fl_value (v := _) (by rfl) (exec_mag rfl) ?_
  try simp only [Act.put, List.setIfInBounds_toArray, List.set_cons_succ, List.set_cons_zero]
  refine fl_load (by rfl) rfl inferInstance inferInstance ?_
  try simp only [Act.put, List.setIfInBounds_toArray, List.set_cons_succ, List.set_cons_zero]
  refine fl_value (v := _) (by rfl) (exec_mag rfl) ?_
  try simp only [Act.put, List.setIfInBounds_toArray, List.set_cons_succ, List.set_cons_zero]
  refine fl_load (by rfl) rfl inferInstance inferInstance ?_
  try simp only [Act.put, List.setIfInBounds_toArray, List.set_cons_succ, List.set_cons_zero]
  refine fl_both (by rfl) (by rfl) ?_ ?_
  · refine wp_allocs inferInstance inferInstance fun g8 u5 b8 => ?_
    clear b8
    try simp only [Act.put, List.setIfInBounds_toArray, List.set_cons_succ, List.set_cons_zero]
    simp only [List.cons_append, List.nil_append]
    refine mx_only (by rfl) ?_
    refine wp_enters (f := 68) (args := #[wv a]) (by go_simp) ?_
    refine (HDA.out _).mono ?_
    rintro e w' ⟨v1, x, rfl, ⟨hx1, hx2, hx3⟩, o1, b1⟩
    have R1 := o1.rd
    obtain ⟨u5, rfl⟩ := u5.go b1
    refine ⟨v1, rfl, KW.weak (h := inferInstance) u5, ?_⟩
    clear o1 b1
    try simp only [Act.put, List.setIfInBounds_toArray, List.set_cons_succ, List.set_cons_zero]
    refine mx_only (by rfl) ?_
    refine wp_enters (f := 68) (args := #[wv b]) (by go_simp) ?_
    refine (HDB.out _).mono ?_
    rintro e w' ⟨v2, y, rfl, ⟨hy1, hy2, hy3⟩, o2, b2⟩
    have R1 := R1.later b2 (Nat.le_refl _)
    have R2 := o2.rd
    obtain ⟨u5, rfl⟩ := u5.go b2
    refine ⟨v2, rfl, KW.weak (h := inferInstance) u5, ?_⟩
    clear o2 b2
    try simp only [Act.put, List.setIfInBounds_toArray, List.set_cons_succ, List.set_cons_zero]
    refine mx_only (by rfl) ?_
    refine wp_enters (f := 115) (args := #[v1, v2]) (by go_simp) ?_
    refine (times_any v1 v2 x y _ R1 R2 hx1 hy1 (by omega) (by omega)).mono ?_
    rintro e w' ⟨v3, z, rfl, ⟨hz1, hz2, hz3⟩, o3, b3⟩
    have R3 := o3.rd
    obtain ⟨u5, rfl⟩ := u5.go b3
    refine ⟨v3, rfl, KW.weak (h := inferInstance) u5, ?_⟩
    clear o3 b3
    try simp only [Act.put, List.setIfInBounds_toArray, List.set_cons_succ, List.set_cons_zero]
    refine mx_only (by rfl) ?_
    refine wp_enters (f := 70) (args := #[v3]) (by go_simp) ?_
    have FW := refWide_any v3 z _ R3 hz1 (by omega)
    rw [hz2, hx2, hy2, hx0, hL, hBt] at FW
    refine FW.mono ?_
    rintro e w' ⟨rfl, b4⟩
    obtain ⟨u5, rfl⟩ := u5.go b4
    refine ⟨_, rfl, KW.weak (h := inferInstance) u5, ?_⟩
    clear b4 FW R3 hz1 hz2 hz3 hx1 hx2 hx3 hy1 hy2 hy3
    try simp only [Act.put, List.setIfInBounds_toArray, List.set_cons_succ, List.set_cons_zero]
    refine mixg_value (v := .tuple #[wv q, .bool true]) (by rfl) (by intro w; go_simp) ?_
    try simp only [Act.put, List.setIfInBounds_toArray, List.set_cons_succ, List.set_cons_zero]
    refine mixg_value (v := wv q) (by rfl) (by intro w; go_simp) ?_
    try simp only [Act.put, List.setIfInBounds_toArray, List.set_cons_succ, List.set_cons_zero]
    refine mixg_value (v := .bool true) (by rfl) (by intro w; go_simp) ?_
    try simp only [Act.put, List.setIfInBounds_toArray, List.set_cons_succ, List.set_cons_zero]
    refine mixg_store (by rfl) rfl rfl inferInstance inferInstance inferInstance inferInstance fun u5 => ?_
    refine mixg_then (v := .bool true) (by rfl) (by go_simp) (KW.weak (h := inferInstance) u5) ?_
    try simp only [Act.put, List.setIfInBounds_toArray, List.set_cons_succ, List.set_cons_zero]
    refine mix_nil ?_
    cases s <;> cases t
    all_goals (
      first | (obtain rfl : r = true := hr) | (obtain rfl : r = false := hr)
      go_wp2_with (first
        | ((with_reducible refine ls_skip ?_ ?_); (exact rfl); (try simp only [Act.put, List.setIfInBounds_toArray, List.set_cons_succ, List.set_cons_zero]))
        | ((with_reducible refine ck_load ?_); first | refine ls_load rfl inferInstance inferInstance ?_ | refine ls_cell rfl inferInstance inferInstance ?_)
        | ((with_reducible refine ck_store ?_); refine ls_store rfl rfl inferInstance inferInstance inferInstance fun _ => ?_)
        | ((with_reducible refine ck_build (t := 26) (xs := #[(0, _), (1, _)]) ?_); refine ls_I rfl rfl ?_)
        | (go_at_call 13; (with_reducible refine (HF.out _).mono ?_); rintro e w' ⟨rfl, hb'⟩; obtain ⟨_, rfl⟩ := KW.go _ hb'; clear hb'))
      exact bd_cell_tmp Tryz.results75 rfl rfl inferInstance inferInstance ⟨rfl, KW.below _⟩)
  · refine wp_enters (f := 68) (args := #[wv a]) (by go_simp) ?_
    refine (HDA.out _).mono ?_
    rintro e w' ⟨v1, x, rfl, ⟨hx1, hx2, hx3⟩, o1, b1⟩
    have R1 := o1.rd
    obtain ⟨u5, rfl⟩ := u5.go b1
    refine ⟨v1, rfl, KW.weak (h := inferInstance) u5, ?_⟩
    clear o1 b1
    try simp only [Act.put, List.setIfInBounds_toArray, List.set_cons_succ, List.set_cons_zero]
    refine fl_both (by rfl) (by rfl) ?_ ?_
    · refine wp_allocs inferInstance inferInstance fun g8 u5 b8 => ?_
      have R1 := R1.later b8 (Nat.le_refl _)
      clear b8
      try simp only [Act.put, List.setIfInBounds_toArray, List.set_cons_succ, List.set_cons_zero]
      simp only [List.cons_append, List.nil_append]
      refine mx_only (by rfl) ?_
      refine wp_enters (f := 68) (args := #[wv b]) (by go_simp) ?_
      refine (HDB.out _).mono ?_
      rintro e w' ⟨v2, y, rfl, ⟨hy1, hy2, hy3⟩, o2, b2⟩
      have R1 := R1.later b2 (Nat.le_refl _)
      have R2 := o2.rd
      obtain ⟨u5, rfl⟩ := u5.go b2
      refine ⟨v2, rfl, KW.weak (h := inferInstance) u5, ?_⟩
      clear o2 b2
      try simp only [Act.put, List.setIfInBounds_toArray, List.set_cons_succ, List.set_cons_zero]
      refine mx_only (by rfl) ?_
      refine wp_enters (f := 115) (args := #[v1, v2]) (by go_simp) ?_
      refine (times_any v1 v2 x y _ R1 R2 hx1 hy1 (by omega) (by omega)).mono ?_
      rintro e w' ⟨v3, z, rfl, ⟨hz1, hz2, hz3⟩, o3, b3⟩
      have R3 := o3.rd
      obtain ⟨u5, rfl⟩ := u5.go b3
      refine ⟨v3, rfl, KW.weak (h := inferInstance) u5, ?_⟩
      clear o3 b3
      try simp only [Act.put, List.setIfInBounds_toArray, List.set_cons_succ, List.set_cons_zero]
      refine mx_only (by rfl) ?_
      refine wp_enters (f := 70) (args := #[v3]) (by go_simp) ?_
      have FW := refWide_any v3 z _ R3 hz1 (by omega)
      rw [hz2, hx2, hy2, hx0, hL, hBt] at FW
      refine FW.mono ?_
      rintro e w' ⟨rfl, b4⟩
      obtain ⟨u5, rfl⟩ := u5.go b4
      refine ⟨_, rfl, KW.weak (h := inferInstance) u5, ?_⟩
      clear b4 FW R3 hz1 hz2 hz3 hx1 hx2 hx3 hy1 hy2 hy3
      try simp only [Act.put, List.setIfInBounds_toArray, List.set_cons_succ, List.set_cons_zero]
      refine mixg_value (v := .tuple #[wv q, .bool true]) (by rfl) (by intro w; go_simp) ?_
      try simp only [Act.put, List.setIfInBounds_toArray, List.set_cons_succ, List.set_cons_zero]
      refine mixg_value (v := wv q) (by rfl) (by intro w; go_simp) ?_
      try simp only [Act.put, List.setIfInBounds_toArray, List.set_cons_succ, List.set_cons_zero]
      refine mixg_value (v := .bool true) (by rfl) (by intro w; go_simp) ?_
      try simp only [Act.put, List.setIfInBounds_toArray, List.set_cons_succ, List.set_cons_zero]
      refine mixg_store (by rfl) rfl rfl inferInstance inferInstance inferInstance inferInstance fun u5 => ?_
      refine mixg_then (v := .bool true) (by rfl) (by go_simp) (KW.weak (h := inferInstance) u5) ?_
      try simp only [Act.put, List.setIfInBounds_toArray, List.set_cons_succ, List.set_cons_zero]
      refine mix_nil ?_
      cases s <;> cases t
      all_goals (
        first | (obtain rfl : r = true := hr) | (obtain rfl : r = false := hr)
        go_wp2_with (first
          | ((with_reducible refine ls_skip ?_ ?_); (exact rfl); (try simp only [Act.put, List.setIfInBounds_toArray, List.set_cons_succ, List.set_cons_zero]))
          | ((with_reducible refine ck_load ?_); first | refine ls_load rfl inferInstance inferInstance ?_ | refine ls_cell rfl inferInstance inferInstance ?_)
          | ((with_reducible refine ck_store ?_); refine ls_store rfl rfl inferInstance inferInstance inferInstance fun _ => ?_)
          | ((with_reducible refine ck_build (t := 26) (xs := #[(0, _), (1, _)]) ?_); refine ls_I rfl rfl ?_)
          | (go_at_call 13; (with_reducible refine (HF.out _).mono ?_); rintro e w' ⟨rfl, hb'⟩; obtain ⟨_, rfl⟩ := KW.go _ hb'; clear hb'))
        exact bd_cell_tmp Tryz.results75 rfl rfl inferInstance inferInstance ⟨rfl, KW.below _⟩)
    · refine wp_enters (f := 68) (args := #[wv b]) (by go_simp) ?_
      refine (HDB.out _).mono ?_
      rintro e w' ⟨v2, y, rfl, ⟨hy1, hy2, hy3⟩, o2, b2⟩
      have R1 := R1.later b2 (Nat.le_refl _)
      have R2 := o2.rd
      obtain ⟨u5, rfl⟩ := u5.go b2
      refine ⟨v2, rfl, KW.weak (h := inferInstance) u5, ?_⟩
      clear o2 b2
      try simp only [Act.put, List.setIfInBounds_toArray, List.set_cons_succ, List.set_cons_zero]
      refine fl_both (by rfl) (by rfl) ?_ ?_
      · refine wp_allocs inferInstance inferInstance fun g8 u5 b8 => ?_
        have R1 := R1.later b8 (Nat.le_refl _)
        have R2 := R2.later b8 (Nat.le_refl _)
        clear b8
        try simp only [Act.put, List.setIfInBounds_toArray, List.set_cons_succ, List.set_cons_zero]
        simp only [List.cons_append, List.nil_append]
        refine mx_only (by rfl) ?_
        refine wp_enters (f := 115) (args := #[v1, v2]) (by go_simp) ?_
        refine (times_any v1 v2 x y _ R1 R2 hx1 hy1 (by omega) (by omega)).mono ?_
        rintro e w' ⟨v3, z, rfl, ⟨hz1, hz2, hz3⟩, o3, b3⟩
        have R3 := o3.rd
        obtain ⟨u5, rfl⟩ := u5.go b3
        refine ⟨v3, rfl, KW.weak (h := inferInstance) u5, ?_⟩
        clear o3 b3
        try simp only [Act.put, List.setIfInBounds_toArray, List.set_cons_succ, List.set_cons_zero]
        refine mx_only (by rfl) ?_
        refine wp_enters (f := 70) (args := #[v3]) (by go_simp) ?_
        have FW := refWide_any v3 z _ R3 hz1 (by omega)
        rw [hz2, hx2, hy2, hx0, hL, hBt] at FW
        refine FW.mono ?_
        rintro e w' ⟨rfl, b4⟩
        obtain ⟨u5, rfl⟩ := u5.go b4
        refine ⟨_, rfl, KW.weak (h := inferInstance) u5, ?_⟩
        clear b4 FW R3 hz1 hz2 hz3 hx1 hx2 hx3 hy1 hy2 hy3
        try simp only [Act.put, List.setIfInBounds_toArray, List.set_cons_succ, List.set_cons_zero]
        refine mixg_value (v := .tuple #[wv q, .bool true]) (by rfl) (by intro w; go_simp) ?_
        try simp only [Act.put, List.setIfInBounds_toArray, List.set_cons_succ, List.set_cons_zero]
        refine mixg_value (v := wv q) (by rfl) (by intro w; go_simp) ?_
        try simp only [Act.put, List.setIfInBounds_toArray, List.set_cons_succ, List.set_cons_zero]
        refine mixg_value (v := .bool true) (by rfl) (by intro w; go_simp) ?_
        try simp only [Act.put, List.setIfInBounds_toArray, List.set_cons_succ, List.set_cons_zero]
        refine mixg_store (by rfl) rfl rfl inferInstance inferInstance inferInstance inferInstance fun u5 => ?_
        refine mixg_then (v := .bool true) (by rfl) (by go_simp) (KW.weak (h := inferInstance) u5) ?_
        try simp only [Act.put, List.setIfInBounds_toArray, List.set_cons_succ, List.set_cons_zero]
        refine mix_nil ?_
        cases s <;> cases t
        all_goals (
          first | (obtain rfl : r = true := hr) | (obtain rfl : r = false := hr)
          go_wp2_with (first
            | ((with_reducible refine ls_skip ?_ ?_); (exact rfl); (try simp only [Act.put, List.setIfInBounds_toArray, List.set_cons_succ, List.set_cons_zero]))
            | ((with_reducible refine ck_load ?_); first | refine ls_load rfl inferInstance inferInstance ?_ | refine ls_cell rfl inferInstance inferInstance ?_)
            | ((with_reducible refine ck_store ?_); refine ls_store rfl rfl inferInstance inferInstance inferInstance fun _ => ?_)
            | ((with_reducible refine ck_build (t := 26) (xs := #[(0, _), (1, _)]) ?_); refine ls_I rfl rfl ?_)
            | (go_at_call 13; (with_reducible refine (HF.out _).mono ?_); rintro e w' ⟨rfl, hb'⟩; obtain ⟨_, rfl⟩ := KW.go _ hb'; clear hb'))
          exact bd_cell_tmp Tryz.results75 rfl rfl inferInstance inferInstance ⟨rfl, KW.below _⟩)
      · refine wp_enters (f := 115) (args := #[v1, v2]) (by go_simp) ?_
        refine (times_any v1 v2 x y _ R1 R2 hx1 hy1 (by omega) (by omega)).mono ?_
        rintro e w' ⟨v3, z, rfl, ⟨hz1, hz2, hz3⟩, o3, b3⟩
        have R3 := o3.rd
        obtain ⟨u5, rfl⟩ := u5.go b3
        refine ⟨v3, rfl, KW.weak (h := inferInstance) u5, ?_⟩
        clear o3 b3
        try simp only [Act.put, List.setIfInBounds_toArray, List.set_cons_succ, List.set_cons_zero]
        refine fl_both (by rfl) (by rfl) ?_ ?_
        · refine wp_allocs inferInstance inferInstance fun g8 u5 b8 => ?_
          have R3 := R3.later b8 (Nat.le_refl _)
          clear b8
          try simp only [Act.put, List.setIfInBounds_toArray, List.set_cons_succ, List.set_cons_zero]
          simp only [List.cons_append, List.nil_append]
          refine mx_only (by rfl) ?_
          refine wp_enters (f := 70) (args := #[v3]) (by go_simp) ?_
          have FW := refWide_any v3 z _ R3 hz1 (by omega)
          rw [hz2, hx2, hy2, hx0, hL, hBt] at FW
          refine FW.mono ?_
          rintro e w' ⟨rfl, b4⟩
          obtain ⟨u5, rfl⟩ := u5.go b4
          refine ⟨_, rfl, KW.weak (h := inferInstance) u5, ?_⟩
          clear b4 FW R3 hz1 hz2 hz3 hx1 hx2 hx3 hy1 hy2 hy3
          try simp only [Act.put, List.setIfInBounds_toArray, List.set_cons_succ, List.set_cons_zero]
          refine mixg_value (v := .tuple #[wv q, .bool true]) (by rfl) (by intro w; go_simp) ?_
          try simp only [Act.put, List.setIfInBounds_toArray, List.set_cons_succ, List.set_cons_zero]
          refine mixg_value (v := wv q) (by rfl) (by intro w; go_simp) ?_
          try simp only [Act.put, List.setIfInBounds_toArray, List.set_cons_succ, List.set_cons_zero]
          refine mixg_value (v := .bool true) (by rfl) (by intro w; go_simp) ?_
          try simp only [Act.put, List.setIfInBounds_toArray, List.set_cons_succ, List.set_cons_zero]
          refine mixg_store (by rfl) rfl rfl inferInstance inferInstance inferInstance inferInstance fun u5 => ?_
          refine mixg_then (v := .bool true) (by rfl) (by go_simp) (KW.weak (h := inferInstance) u5) ?_
          try simp only [Act.put, List.setIfInBounds_toArray, List.set_cons_succ, List.set_cons_zero]
          refine mix_nil ?_
          cases s <;> cases t
          all_goals (
            first | (obtain rfl : r = true := hr) | (obtain rfl : r = false := hr)
            go_wp2_with (first
              | ((with_reducible refine ls_skip ?_ ?_); (exact rfl); (try simp only [Act.put, List.setIfInBounds_toArray, List.set_cons_succ, List.set_cons_zero]))
              | ((with_reducible refine ck_load ?_); first | refine ls_load rfl inferInstance inferInstance ?_ | refine ls_cell rfl inferInstance inferInstance ?_)
              | ((with_reducible refine ck_store ?_); refine ls_store rfl rfl inferInstance inferInstance inferInstance fun _ => ?_)
              | ((with_reducible refine ck_build (t := 26) (xs := #[(0, _), (1, _)]) ?_); refine ls_I rfl rfl ?_)
              | (go_at_call 13; (with_reducible refine (HF.out _).mono ?_); rintro e w' ⟨rfl, hb'⟩; obtain ⟨_, rfl⟩ := KW.go _ hb'; clear hb'))
            exact bd_cell_tmp Tryz.results75 rfl rfl inferInstance inferInstance ⟨rfl, KW.below _⟩)
        · refine wp_enters (f := 70) (args := #[v3]) (by go_simp) ?_
          have FW := refWide_any v3 z _ R3 hz1 (by omega)
          rw [hz2, hx2, hy2, hx0, hL, hBt] at FW
          refine FW.mono ?_
          rintro e w' ⟨rfl, b4⟩
          obtain ⟨u5, rfl⟩ := u5.go b4
          refine ⟨_, rfl, KW.weak (h := inferInstance) u5, ?_⟩
          clear b4 FW R3 hz1 hz2 hz3 hx1 hx2 hx3 hy1 hy2 hy3
          try simp only [Act.put, List.setIfInBounds_toArray, List.set_cons_succ, List.set_cons_zero]
          refine fl_value (v := .tuple #[wv q, .bool true]) (by rfl) (by intro w; go_simp) ?_
          try simp only [Act.put, List.setIfInBounds_toArray, List.set_cons_succ, List.set_cons_zero]
          refine fl_value (v := wv q) (by rfl) (by intro w; go_simp) ?_
          try simp only [Act.put, List.setIfInBounds_toArray, List.set_cons_succ, List.set_cons_zero]
          refine fl_value (v := .bool true) (by rfl) (by intro w; go_simp) ?_
          try simp only [Act.put, List.setIfInBounds_toArray, List.set_cons_succ, List.set_cons_zero]
          refine fl_nil (by rfl) ?_
          refine wp_allocs inferInstance inferInstance fun g8 u5 b8 => ?_
          clear b8
          try simp only [Act.put, List.setIfInBounds_toArray, List.set_cons_succ, List.set_cons_zero]
          refine mixg_store (by rfl) rfl rfl inferInstance inferInstance inferInstance inferInstance fun u5 => ?_
          refine mixg_then (v := .bool true) (by rfl) (by go_simp) (KW.weak (h := inferInstance) u5) ?_
          try simp only [Act.put, List.setIfInBounds_toArray, List.set_cons_succ, List.set_cons_zero]
          refine mix_nil ?_
          cases s <;> cases t
          all_goals (
            first | (obtain rfl : r = true := hr) | (obtain rfl : r = false := hr)
            go_wp2_with (first
              | ((with_reducible refine ls_skip ?_ ?_); (exact rfl); (try simp only [Act.put, List.setIfInBounds_toArray, List.set_cons_succ, List.set_cons_zero]))
              | ((with_reducible refine ck_load ?_); first | refine ls_load rfl inferInstance inferInstance ?_ | refine ls_cell rfl inferInstance inferInstance ?_)
              | ((with_reducible refine ck_store ?_); refine ls_store rfl rfl inferInstance inferInstance inferInstance fun _ => ?_)
              | ((with_reducible refine ck_build (t := 26) (xs := #[(0, _), (1, _)]) ?_); refine ls_I rfl rfl ?_)
              | (go_at_call 13; (with_reducible refine (HF.out _).mono ?_); rintro e w' ⟨rfl, hb'⟩; obtain ⟨_, rfl⟩ := KW.go _ hb'; clear hb'))
            exact bd_cell_tmp Tryz.results75 rfl rfl inferInstance inferInstance ⟨rfl, KW.below _⟩)
set_option maxRecDepth 100000 in
set_option maxHeartbeats 12800000 in
theorem rmul_big (s t : Bool) (a b : Nat) (ha : Hid (a < M)) (hb : Hid (b < M)) (hf : ¬ a * b < M) (w : World) : Calls Tryz.prog 75 #[iv s a, iv t b] w (Ret (fv (sg s a * sg t b)) w) := by
  have HDA := Lib.hid (fun w => digits32_any a ha w)
  have HDB := Lib.hid (fun w => digits32_any b hb w)
  rw [← sg_mul, fv_big (by rw [sg_abs]; exact hf)]
  have hBt : fitB (a * b) = false := decide_eq_false hf
  obtain ⟨q, hL⟩ : ∃ q, low (a * b) = q := ⟨_, rfl⟩
  clear hf
  refine enter fun u => ?_
  go_enter Tryz.func75, Tryz.ntmps75
  go_wp2_with (first
    | ((with_reducible refine ls_skip ?_ ?_); (exact rfl); (try simp only [Act.put, List.setIfInBounds_toArray, List.set_cons_succ, List.set_cons_zero]))
    | ((with_reducible refine ck_box ?_); refine list_box rfl fun _ _ => ?_)
    | ((with_reducible refine ck_alloc ?_); refine ls_alloc inferInstance fun _ _ => ?_))
  try simp only [Act.put, List.setIfInBounds_toArray, List.set_cons_succ, List.set_cons_zero]
  refine region_float [(true, 0), (true, 1), (true, 3), (true, 4), (false, 2), (false, 5), (false, 6), (false, 7), (true, 8), (true, 9), (true, 10)] 11 [(false, 12), (false, 13)] _ _ (Sub.both (h := Sub.both (h := Sub.both (h := Sub.nil)))) (by kernel_rfl) rfl (by kernel_rfl) (fun _ _ _ _ _ h => by first | (simp only [Exit.then, bodyPost, defers_put] at h ⊢; exact h) | (simp only [Exit.then, Exit.inBlock, bodyPost, defers_put] at h ⊢; exact h)) ?_
  intro u5 _
  simp only [picks, List.filterMap_cons, List.filterMap_nil, List.getElem?_cons_zero, List.getElem?_cons_succ, Option.map_some]
  refine fl_value (v := _) (by rfl) (exec_mag rfl) ?_
  try simp only [Act.put, List.setIfInBounds_toArray, List.set_cons_succ, List.set_cons_zero]
  refine fl_load (by rfl) rfl inferInstance inferInstance ?_
  try simp only [Act.put, List.setIfInBounds_toArray, List.set_cons_succ, List.set_cons_zero]
  refine fl_value (v := _) (by rfl) (exec_mag rfl) ?_
  try simp only [Act.put, List.setIfInBounds_toArray, List.set_cons_succ, List.set_cons_zero]
  refine fl_load (by rfl) rfl inferInstance inferInstance ?_
  try simp only [Act.put, List.setIfInBounds_toArray, List.set_cons_succ, List.set_cons_zero]
  refine fl_both (by rfl) (by rfl) ?_ ?_
  · refine wp_allocs inferInstance inferInstance fun g8 u5 b8 => ?_
    clear b8
    try simp only [Act.put, List.setIfInBounds_toArray, List.set_cons_succ, List.set_cons_zero]
    simp only [List.cons_append, List.nil_append]
    refine mx_only (by rfl) ?_
    refine wp_enters (f := 68) (args := #[wv a]) (by go_simp) ?_
    refine (HDA.out _).mono ?_
    rintro e w' ⟨v1, x, rfl, ⟨hx1, hx2, hx3⟩, o1, b1⟩
    have R1 := o1.rd
    obtain ⟨u5, rfl⟩ := u5.go b1
    refine ⟨v1, rfl, KW.weak (h := inferInstance) u5, ?_⟩
    clear o1 b1
    try simp only [Act.put, List.setIfInBounds_toArray, List.set_cons_succ, List.set_cons_zero]
    refine mx_only (by rfl) ?_
    refine wp_enters (f := 68) (args := #[wv b]) (by go_simp) ?_
    refine (HDB.out _).mono ?_
    rintro e w' ⟨v2, y, rfl, ⟨hy1, hy2, hy3⟩, o2, b2⟩
    have R1 := R1.later b2 (Nat.le_refl _)
    have R2 := o2.rd
    obtain ⟨u5, rfl⟩ := u5.go b2
    refine ⟨v2, rfl, KW.weak (h := inferInstance) u5, ?_⟩
    clear o2 b2
    try simp only [Act.put, List.setIfInBounds_toArray, List.set_cons_succ, List.set_cons_zero]
    refine mx_only (by rfl) ?_
    refine wp_enters (f := 115) (args := #[v1, v2]) (by go_simp) ?_
    refine (times_any v1 v2 x y _ R1 R2 hx1 hy1 (by omega) (by omega)).mono ?_
    rintro e w' ⟨v3, z, rfl, ⟨hz1, hz2, hz3⟩, o3, b3⟩
    have R3 := o3.rd
    obtain ⟨u5, rfl⟩ := u5.go b3
    refine ⟨v3, rfl, KW.weak (h := inferInstance) u5, ?_⟩
    clear o3 b3
    try simp only [Act.put, List.setIfInBounds_toArray, List.set_cons_succ, List.set_cons_zero]
    refine mx_only (by rfl) ?_
    refine wp_enters (f := 70) (args := #[v3]) (by go_simp) ?_
    have FW := refWide_any v3 z _ R3 hz1 (by omega)
    rw [hz2, hx2, hy2, hL, hBt] at FW
    refine FW.mono ?_
    rintro e w' ⟨rfl, b4⟩
    obtain ⟨u5, rfl⟩ := u5.go b4
    refine ⟨_, rfl, KW.weak (h := inferInstance) u5, ?_⟩
    clear b4 FW R3 hz1 hz2 hz3 hx1 hx2 hx3 hy1 hy2 hy3
    try simp only [Act.put, List.setIfInBounds_toArray, List.set_cons_succ, List.set_cons_zero]
    refine mixg_value (v := .tuple #[wv q, .bool false]) (by rfl) (by intro w; go_simp) ?_
    try simp only [Act.put, List.setIfInBounds_toArray, List.set_cons_succ, List.set_cons_zero]
    refine mixg_value (v := wv q) (by rfl) (by intro w; go_simp) ?_
    try simp only [Act.put, List.setIfInBounds_toArray, List.set_cons_succ, List.set_cons_zero]
    refine mixg_value (v := .bool false) (by rfl) (by intro w; go_simp) ?_
    try simp only [Act.put, List.setIfInBounds_toArray, List.set_cons_succ, List.set_cons_zero]
    refine mixg_store (by rfl) rfl rfl inferInstance inferInstance inferInstance inferInstance fun u5 => ?_
    refine mixg_then (v := .bool false) (by rfl) (by go_simp) (KW.weak (h := inferInstance) u5) ?_
    try simp only [Act.put, List.setIfInBounds_toArray, List.set_cons_succ, List.set_cons_zero]
    refine mix_nil ?_
    go_wp2_with (first
      | ((with_reducible refine ls_skip ?_ ?_); (exact rfl); (try simp only [Act.put, List.setIfInBounds_toArray, List.set_cons_succ, List.set_cons_zero]))
      | ((with_reducible refine ck_load ?_); first | refine ls_load rfl inferInstance inferInstance ?_ | refine ls_cell rfl inferInstance inferInstance ?_)
      | ((with_reducible refine ck_store ?_); refine ls_store rfl rfl inferInstance inferInstance inferInstance fun _ => ?_)
      | ((with_reducible refine ck_build (t := 26) (xs := #[]) ?_); refine ls_I0 ?_))
    exact bd_cell_tmp Tryz.results75 rfl rfl inferInstance inferInstance ⟨rfl, KW.below _⟩
  · refine wp_enters (f := 68) (args := #[wv a]) (by go_simp) ?_
    refine (HDA.out _).mono ?_
    rintro e w' ⟨v1, x, rfl, ⟨hx1, hx2, hx3⟩, o1, b1⟩
    have R1 := o1.rd
    obtain ⟨u5, rfl⟩ := u5.go b1
    refine ⟨v1, rfl, KW.weak (h := inferInstance) u5, ?_⟩
    clear o1 b1
    try simp only [Act.put, List.setIfInBounds_toArray, List.set_cons_succ, List.set_cons_zero]
    refine fl_both (by rfl) (by rfl) ?_ ?_
    · refine wp_allocs inferInstance inferInstance fun g8 u5 b8 => ?_
      have R1 := R1.later b8 (Nat.le_refl _)
      clear b8
      try simp only [Act.put, List.setIfInBounds_toArray, List.set_cons_succ, List.set_cons_zero]
      simp only [List.cons_append, List.nil_append]
      refine mx_only (by rfl) ?_
      refine wp_enters (f := 68) (args := #[wv b]) (by go_simp) ?_
      refine (HDB.out _).mono ?_
      rintro e w' ⟨v2, y, rfl, ⟨hy1, hy2, hy3⟩, o2, b2⟩
      have R1 := R1.later b2 (Nat.le_refl _)
      have R2 := o2.rd
      obtain ⟨u5, rfl⟩ := u5.go b2
      refine ⟨v2, rfl, KW.weak (h := inferInstance) u5, ?_⟩
      clear o2 b2
      try simp only [Act.put, List.setIfInBounds_toArray, List.set_cons_succ, List.set_cons_zero]
      refine mx_only (by rfl) ?_
      refine wp_enters (f := 115) (args := #[v1, v2]) (by go_simp) ?_
      refine (times_any v1 v2 x y _ R1 R2 hx1 hy1 (by omega) (by omega)).mono ?_
      rintro e w' ⟨v3, z, rfl, ⟨hz1, hz2, hz3⟩, o3, b3⟩
      have R3 := o3.rd
      obtain ⟨u5, rfl⟩ := u5.go b3
      refine ⟨v3, rfl, KW.weak (h := inferInstance) u5, ?_⟩
      clear o3 b3
      try simp only [Act.put, List.setIfInBounds_toArray, List.set_cons_succ, List.set_cons_zero]
      refine mx_only (by rfl) ?_
      refine wp_enters (f := 70) (args := #[v3]) (by go_simp) ?_
      have FW := refWide_any v3 z _ R3 hz1 (by omega)
      rw [hz2, hx2, hy2, hL, hBt] at FW
      refine FW.mono ?_
      rintro e w' ⟨rfl, b4⟩
      obtain ⟨u5, rfl⟩ := u5.go b4
      refine ⟨_, rfl, KW.weak (h := inferInstance) u5, ?_⟩
      clear b4 FW R3 hz1 hz2 hz3 hx1 hx2 hx3 hy1 hy2 hy3
      try simp only [Act.put, List.setIfInBounds_toArray, List.set_cons_succ, List.set_cons_zero]
      refine mixg_value (v := .tuple #[wv q, .bool false]) (by rfl) (by intro w; go_simp) ?_
      try simp only [Act.put, List.setIfInBounds_toArray, List.set_cons_succ, List.set_cons_zero]
      refine mixg_value (v := wv q) (by rfl) (by intro w; go_simp) ?_
      try simp only [Act.put, List.setIfInBounds_toArray, List.set_cons_succ, List.set_cons_zero]
      refine mixg_value (v := .bool false) (by rfl) (by intro w; go_simp) ?_
      try simp only [Act.put, List.setIfInBounds_toArray, List.set_cons_succ, List.set_cons_zero]
      refine mixg_store (by rfl) rfl rfl inferInstance inferInstance inferInstance inferInstance fun u5 => ?_
      refine mixg_then (v := .bool false) (by rfl) (by go_simp) (KW.weak (h := inferInstance) u5) ?_
      try simp only [Act.put, List.setIfInBounds_toArray, List.set_cons_succ, List.set_cons_zero]
      refine mix_nil ?_
      go_wp2_with (first
        | ((with_reducible refine ls_skip ?_ ?_); (exact rfl); (try simp only [Act.put, List.setIfInBounds_toArray, List.set_cons_succ, List.set_cons_zero]))
        | ((with_reducible refine ck_load ?_); first | refine ls_load rfl inferInstance inferInstance ?_ | refine ls_cell rfl inferInstance inferInstance ?_)
        | ((with_reducible refine ck_store ?_); refine ls_store rfl rfl inferInstance inferInstance inferInstance fun _ => ?_)
        | ((with_reducible refine ck_build (t := 26) (xs := #[]) ?_); refine ls_I0 ?_))
      exact bd_cell_tmp Tryz.results75 rfl rfl inferInstance inferInstance ⟨rfl, KW.below _⟩
    · refine wp_enters (f := 68) (args := #[wv b]) (by go_simp) ?_
      refine (HDB.out _).mono ?_
      rintro e w' ⟨v2, y, rfl, ⟨hy1, hy2, hy3⟩, o2, b2⟩
      have R1 := R1.later b2 (Nat.le_refl _)
      have R2 := o2.rd
      obtain ⟨u5, rfl⟩ := u5.go b2
      refine ⟨v2, rfl, KW.weak (h := inferInstance) u5, ?_⟩
      clear o2 b2
      try simp only [Act.put, List.setIfInBounds_toArray, List.set_cons_succ, List.set_cons_zero]
      refine fl_both (by rfl) (by rfl) ?_ ?_
      · refine wp_allocs inferInstance inferInstance fun g8 u5 b8 => ?_
        have R1 := R1.later b8 (Nat.le_refl _)
        have R2 := R2.later b8 (Nat.le_refl _)
        clear b8
        try simp only [Act.put, List.setIfInBounds_toArray, List.set_cons_succ, List.set_cons_zero]
        simp only [List.cons_append, List.nil_append]
        refine mx_only (by rfl) ?_
        refine wp_enters (f := 115) (args := #[v1, v2]) (by go_simp) ?_
        refine (times_any v1 v2 x y _ R1 R2 hx1 hy1 (by omega) (by omega)).mono ?_
        rintro e w' ⟨v3, z, rfl, ⟨hz1, hz2, hz3⟩, o3, b3⟩
        have R3 := o3.rd
        obtain ⟨u5, rfl⟩ := u5.go b3
        refine ⟨v3, rfl, KW.weak (h := inferInstance) u5, ?_⟩
        clear o3 b3
        try simp only [Act.put, List.setIfInBounds_toArray, List.set_cons_succ, List.set_cons_zero]
        refine mx_only (by rfl) ?_
        refine wp_enters (f := 70) (args := #[v3]) (by go_simp) ?_
        have FW := refWide_any v3 z _ R3 hz1 (by omega)
        rw [hz2, hx2, hy2, hL, hBt] at FW
        refine FW.mono ?_
        rintro e w' ⟨rfl, b4⟩
        obtain ⟨u5, rfl⟩ := u5.go b4
        refine ⟨_, rfl, KW.weak (h := inferInstance) u5, ?_⟩
        clear b4 FW R3 hz1 hz2 hz3 hx1 hx2 hx3 hy1 hy2 hy3
        try simp only [Act.put, List.setIfInBounds_toArray, List.set_cons_succ, List.set_cons_zero]
        refine mixg_value (v := .tuple #[wv q, .bool false]) (by rfl) (by intro w; go_simp) ?_
        try simp only [Act.put, List.setIfInBounds_toArray, List.set_cons_succ, List.set_cons_zero]
        refine mixg_value (v := wv q) (by rfl) (by intro w; go_simp) ?_
        try simp only [Act.put, List.setIfInBounds_toArray, List.set_cons_succ, List.set_cons_zero]
        refine mixg_value (v := .bool false) (by rfl) (by intro w; go_simp) ?_
        try simp only [Act.put, List.setIfInBounds_toArray, List.set_cons_succ, List.set_cons_zero]
        refine mixg_store (by rfl) rfl rfl inferInstance inferInstance inferInstance inferInstance fun u5 => ?_
        refine mixg_then (v := .bool false) (by rfl) (by go_simp) (KW.weak (h := inferInstance) u5) ?_
        try simp only [Act.put, List.setIfInBounds_toArray, List.set_cons_succ, List.set_cons_zero]
        refine mix_nil ?_
        go_wp2_with (first
          | ((with_reducible refine ls_skip ?_ ?_); (exact rfl); (try simp only [Act.put, List.setIfInBounds_toArray, List.set_cons_succ, List.set_cons_zero]))
          | ((with_reducible refine ck_load ?_); first | refine ls_load rfl inferInstance inferInstance ?_ | refine ls_cell rfl inferInstance inferInstance ?_)
          | ((with_reducible refine ck_store ?_); refine ls_store rfl rfl inferInstance inferInstance inferInstance fun _ => ?_)
          | ((with_reducible refine ck_build (t := 26) (xs := #[]) ?_); refine ls_I0 ?_))
        exact bd_cell_tmp Tryz.results75 rfl rfl inferInstance inferInstance ⟨rfl, KW.below _⟩
      · refine wp_enters (f := 115) (args := #[v1, v2]) (by go_simp) ?_
        refine (times_any v1 v2 x y _ R1 R2 hx1 hy1 (by omega) (by omega)).mono ?_
        rintro e w' ⟨v3, z, rfl, ⟨hz1, hz2, hz3⟩, o3, b3⟩
        have R3 := o3.rd
        obtain ⟨u5, rfl⟩ := u5.go b3
        refine ⟨v3, rfl, KW.weak (h := inferInstance) u5, ?_⟩
        clear o3 b3
        try simp only [Act.put, List.setIfInBounds_toArray, List.set_cons_succ, List.set_cons_zero]
        refine fl_both (by rfl) (by rfl) ?_ ?_
        · refine wp_allocs inferInstance inferInstance fun g8 u5 b8 => ?_
          have R3 := R3.later b8 (Nat.le_refl _)
          clear b8
          try simp only [Act.put, List.setIfInBounds_toArray, List.set_cons_succ, List.set_cons_zero]
          simp only [List.cons_append, List.nil_append]
          refine mx_only (by rfl) ?_
          refine wp_enters (f := 70) (args := #[v3]) (by go_simp) ?_
          have FW := refWide_any v3 z _ R3 hz1 (by omega)
          rw [hz2, hx2, hy2, hL, hBt] at FW
          refine FW.mono ?_
          rintro e w' ⟨rfl, b4⟩
          obtain ⟨u5, rfl⟩ := u5.go b4
          refine ⟨_, rfl, KW.weak (h := inferInstance) u5, ?_⟩
          clear b4 FW R3 hz1 hz2 hz3 hx1 hx2 hx3 hy1 hy2 hy3
          try simp only [Act.put, List.setIfInBounds_toArray, List.set_cons_succ, List.set_cons_zero]
          refine mixg_value (v := .tuple #[wv q, .bool false]) (by rfl) (by intro w; go_simp) ?_
          try simp only [Act.put, List.setIfInBounds_toArray, List.set_cons_succ, List.set_cons_zero]
          refine mixg_value (v := wv q) (by rfl) (by intro w; go_simp) ?_
          try simp only [Act.put, List.setIfInBounds_toArray, List.set_cons_succ, List.set_cons_zero]
          refine mixg_value (v := .bool false) (by rfl) (by intro w; go_simp) ?_
          try simp only [Act.put, List.setIfInBounds_toArray, List.set_cons_succ, List.set_cons_zero]
          refine mixg_store (by rfl) rfl rfl inferInstance inferInstance inferInstance inferInstance fun u5 => ?_
          refine mixg_then (v := .bool false) (by rfl) (by go_simp) (KW.weak (h := inferInstance) u5) ?_
          try simp only [Act.put, List.setIfInBounds_toArray, List.set_cons_succ, List.set_cons_zero]
          refine mix_nil ?_
          go_wp2_with (first
            | ((with_reducible refine ls_skip ?_ ?_); (exact rfl); (try simp only [Act.put, List.setIfInBounds_toArray, List.set_cons_succ, List.set_cons_zero]))
            | ((with_reducible refine ck_load ?_); first | refine ls_load rfl inferInstance inferInstance ?_ | refine ls_cell rfl inferInstance inferInstance ?_)
            | ((with_reducible refine ck_store ?_); refine ls_store rfl rfl inferInstance inferInstance inferInstance fun _ => ?_)
            | ((with_reducible refine ck_build (t := 26) (xs := #[]) ?_); refine ls_I0 ?_))
          exact bd_cell_tmp Tryz.results75 rfl rfl inferInstance inferInstance ⟨rfl, KW.below _⟩
        · refine wp_enters (f := 70) (args := #[v3]) (by go_simp) ?_
          have FW := refWide_any v3 z _ R3 hz1 (by omega)
          rw [hz2, hx2, hy2, hL, hBt] at FW
          refine FW.mono ?_
          rintro e w' ⟨rfl, b4⟩
          obtain ⟨u5, rfl⟩ := u5.go b4
          refine ⟨_, rfl, KW.weak (h := inferInstance) u5, ?_⟩
          clear b4 FW R3 hz1 hz2 hz3 hx1 hx2 hx3 hy1 hy2 hy3
          try simp only [Act.put, List.setIfInBounds_toArray, List.set_cons_succ, List.set_cons_zero]
          refine fl_value (v := .tuple #[wv q, .bool false]) (by rfl) (by intro w; go_simp) ?_
          try simp only [Act.put, List.setIfInBounds_toArray, List.set_cons_succ, List.set_cons_zero]
          refine fl_value (v := wv q) (by rfl) (by intro w; go_simp) ?_
          try simp only [Act.put, List.setIfInBounds_toArray, List.set_cons_succ, List.set_cons_zero]
          refine fl_value (v := .bool false) (by rfl) (by intro w; go_simp) ?_
          try simp only [Act.put, List.setIfInBounds_toArray, List.set_cons_succ, List.set_cons_zero]
          refine fl_nil (by rfl) ?_
          refine wp_allocs inferInstance inferInstance fun g8 u5 b8 => ?_
          clear b8
          try simp only [Act.put, List.setIfInBounds_toArray, List.set_cons_succ, List.set_cons_zero]
          refine mixg_store (by rfl) rfl rfl inferInstance inferInstance inferInstance inferInstance fun u5 => ?_
          refine mixg_then (v := .bool false) (by rfl) (by go_simp) (KW.weak (h := inferInstance) u5) ?_
          try simp only [Act.put, List.setIfInBounds_toArray, List.set_cons_succ, List.set_cons_zero]
          refine mix_nil ?_
          go_wp2_with (first
            | ((with_reducible refine ls_skip ?_ ?_); (exact rfl); (try simp only [Act.put, List.setIfInBounds_toArray, List.set_cons_succ, List.set_cons_zero]))
            | ((with_reducible refine ck_load ?_); first | refine ls_load rfl inferInstance inferInstance ?_ | refine ls_cell rfl inferInstance inferInstance ?_)
            | ((with_reducible refine ck_store ?_); refine ls_store rfl rfl inferInstance inferInstance inferInstance fun _ => ?_)
            | ((with_reducible refine ck_build (t := 26) (xs := #[]) ?_); refine ls_I0 ?_))
          exact bd_cell_tmp Tryz.results75 rfl rfl inferInstance inferInstance ⟨rfl, KW.below _⟩
theorem rmul_any (s t : Bool) (a b : Nat) (ha : Hid (a < M)) (hb : Hid (b < M)) (w : World) : Calls Tryz.prog 75 #[iv s a, iv t b] w (Ret (fv (sg s a * sg t b)) w) := by
  by_cases hf : a * b < M
  · exact rmul_fit s t a b ha hb hf w
  · exact rmul_big s t a b ha hb hf w
end Go.Proofs.YtacicfmalhhceaaGreatDoor.SignW

/- The document's own answers of layer 5: order, digits: contracts over the translation. -/
namespace Go.Proofs.YtacicfmalhhceaaGreatDoor.SignW
open Go.RowKit
open DigM WideM WideV KM DigW WideW QuotW QuotM DecM FmtW SignM
open Go.Lib (decDigits nDigits)
/-- what is left of a comparison: a number z that may be, which lies to 0 as the difference does -/
theorem cmp_cases (z : Int) : (ng z = true ∧ cmpZ z = -1) ∨ (ng z = false ∧ z.natAbs = 0 ∧ cmpZ z = 0) ∨ (ng z = false ∧ z.natAbs ≠ 0 ∧ cmpZ z = 1) := by
  unfold ng cmpZ
  by_cases h : z < 0
  · exact Or.inl ⟨decide_eq_true h, if_pos h⟩
  · rw [if_neg h]
    by_cases h0 : z = 0
    · exact Or.inr (Or.inl ⟨decide_eq_false h, by omega, if_pos h0⟩)
    · exact Or.inr (Or.inr ⟨decide_eq_false h, by omega, if_neg h0⟩)
theorem cmpZ_far {x y : Int} (_hx : x.natAbs < M) (hy : y.natAbs < M) (h : ¬ (x - y).natAbs < M) : cmpZ x = cmpZ (x - y) := by
  unfold cmpZ
  by_cases h1 : x < 0
  · rw [if_pos h1, if_pos (by omega)]
  · rw [if_neg h1, if_neg (by omega), if_neg (by omega), if_neg (by omega)]
theorem eqF5 (y : Nat) (hy : y < M) (h : ¬ y = 0) (w : World) : (Op.equalIn 10000 24 (.agg (cells 8 y)) (.agg (cells 8 0))).run Tryz.prog w = .ok false w := by
  rw [eqlW y 0 hy M_pos w, show eqB y 0 = false from decide_eq_false h]
set_option maxRecDepth 100000 in
set_option maxHeartbeats 6400000 in
theorem rcmp_fit (s t : Bool) (a b : Nat) (ha : Hid (a < M)) (hb : Hid (b < M)) (hf : (sg s a - sg t b).natAbs < M) (w : World) : Calls Tryz.prog 76 #[iv s a, iv t b] w (Ret (.int .i64 (cmpZ (sg s a - sg t b))) w) := by
  have HX := Lib.hid (fun w => rfix_any s a ha w)
  have HY := Lib.hid (fun w => rless_any t b hb w)
  have hy0 := nv_lt (show (sg t b).natAbs < M by rw [sg_abs]; exact hb.out)
  have hxM : (sg s a).natAbs < M := by rw [sg_abs]; exact ha.out
  have HA := fun w => radd_any (ng (sg s a)) (ng (- sg t b)) (sg s a).natAbs (- sg t b).natAbs (Lib.hid hxM) (Lib.hid hy0) w
  rw [sg_ng, sg_ng, ← Int.sub_eq_add_neg] at HA
  rw [fv_fit hf] at HA
  have hc := cmp_cases (sg s a - sg t b)
  have HM := Lib.hid hf
  have HA := Lib.hid HA
  clear hy0 hxM hf
  unfold nv at HX HY HA
  generalize cmpZ (sg s a - sg t b) = c at *
  generalize ng (sg s a - sg t b) = p at *
  generalize (sg s a - sg t b).natAbs = m at *
  generalize ng (sg s a) = px at *
  generalize (sg s a).natAbs = mx at *
  generalize ng (- sg t b) = py at *
  generalize (- sg t b).natAbs = my at *
  refine enter fun u => ?_
  go_enter Tryz.func76, Tryz.ntmps76
  go_wp2_with (first
    | ((with_reducible refine ls_skip ?_ ?_); (exact rfl); (try simp only [Act.put, List.setIfInBounds_toArray, List.set_cons_succ, List.set_cons_zero]))
    | ((with_reducible refine ck_box ?_); refine list_box rfl fun _ _ => ?_))
  try simp only [Act.put, List.setIfInBounds_toArray, List.set_cons_succ, List.set_cons_zero]
  refine region_mixS [.take 0, .take 2, .take 1, .take 3, .take 4, .take 5, .take 6, .take 7, .sole 8, .sole 9, .sole 10] _ (Sub.both (h := Sub.both (h := Sub.nil))) (by kernel_rfl) (by kernel_rfl) ?_
  simp only [picksM, Mv.pick, List.filterMap_cons, List.filterMap_nil, List.getElem?_cons_zero, List.getElem?_cons_succ, Option.map_some]
  refine sm_load rfl inferInstance inferInstance ?_
  try simp only [Act.put, List.setIfInBounds_toArray, List.set_cons_succ, List.set_cons_zero]
  refine sm_load rfl inferInstance inferInstance ?_
  try simp only [Act.put, List.setIfInBounds_toArray, List.set_cons_succ, List.set_cons_zero]
  refine sm_call (f := 13) (args := #[iv s a]) (by intro w; go_simp) (fun _ u => HX.out _) ?_
  try simp only [Act.put, List.setIfInBounds_toArray, List.set_cons_succ, List.set_cons_zero]
  refine sm_call (f := 116) (args := #[iv t b]) (by intro w; go_simp) (fun _ u => HY.out _) ?_
  try simp only [Act.put, List.setIfInBounds_toArray, List.set_cons_succ, List.set_cons_zero]
  refine sm_call (f := 81) (args := #[iv px mx, iv py my]) (by intro w; go_simp) (fun _ u => HA.out _) ?_
  try simp only [Act.put, List.setIfInBounds_toArray, List.set_cons_succ, List.set_cons_zero]
  refine sm_value (v := .tuple #[iv p m, .bool true]) (by intro w; go_simp) ?_
  try simp only [Act.put, List.setIfInBounds_toArray, List.set_cons_succ, List.set_cons_zero]
  refine sm_value (v := iv p m) (by intro w; go_simp) ?_
  try simp only [Act.put, List.setIfInBounds_toArray, List.set_cons_succ, List.set_cons_zero]
  refine sm_value (v := .bool true) (by intro w; go_simp) ?_
  try simp only [Act.put, List.setIfInBounds_toArray, List.set_cons_succ, List.set_cons_zero]
  refine so_alloc inferInstance inferInstance fun _ => ?_
  try simp only [Act.put, List.setIfInBounds_toArray, List.set_cons_succ, List.set_cons_zero]
  refine so_store rfl rfl inferInstance inferInstance inferInstance inferInstance ?_
  try simp only [Act.put, List.setIfInBounds_toArray, List.set_cons_succ, List.set_cons_zero]
  refine so_value (v := .bool true) inferInstance (by intro w; go_simp) ?_
  try simp only [Act.put, List.setIfInBounds_toArray, List.set_cons_succ, List.set_cons_zero]
  refine sm_nil fun u7 => ?_
  rcases hc with ⟨rfl, rfl⟩ | ⟨rfl, rfl, rfl⟩ | ⟨rfl, hm, rfl⟩
  · go_wp2_with (first
      | ((with_reducible refine ls_skip ?_ ?_); (exact rfl); (try simp only [Act.put, List.setIfInBounds_toArray, List.set_cons_succ, List.set_cons_zero]))
      | ((with_reducible refine ck_load ?_); first | refine ls_load rfl inferInstance inferInstance ?_ | refine ls_cell rfl inferInstance inferInstance ?_)
      | ((with_reducible refine ck_store ?_); refine ls_store rfl rfl inferInstance inferInstance inferInstance fun _ => ?_))
    go_ret
    exact ⟨rfl, KW.below _⟩
  · go_wp2_with (first
      | ((with_reducible refine ls_skip ?_ ?_); (exact rfl); (try simp only [Act.put, List.setIfInBounds_toArray, List.set_cons_succ, List.set_cons_zero]))
      | ((with_reducible refine ck_load ?_); first | refine ls_load rfl inferInstance inferInstance ?_ | refine ls_cell rfl inferInstance inferInstance ?_)
      | ((with_reducible refine ck_store ?_); refine ls_store rfl rfl inferInstance inferInstance inferInstance fun _ => ?_)
      | ((with_reducible refine ck_build (t := 24) (xs := #[]) ?_); refine ls_W0 ?_))
    go_ret
    exact ⟨rfl, KW.below _⟩
  · have heq := eqF5 m HM.out hm
    clear hm
    go_wp2_with (first
      | ((with_reducible refine ls_skip ?_ ?_); (exact rfl); (try simp only [Act.put, List.setIfInBounds_toArray, List.set_cons_succ, List.set_cons_zero]))
      | ((with_reducible refine ck_load ?_); first | refine ls_load rfl inferInstance inferInstance ?_ | refine ls_cell rfl inferInstance inferInstance ?_)
      | ((with_reducible refine ck_store ?_); refine ls_store rfl rfl inferInstance inferInstance inferInstance fun _ => ?_)
      | ((with_reducible refine ck_build (t := 24) (xs := #[]) ?_); refine ls_W0 ?_))
    go_ret
    exact ⟨rfl, KW.below _⟩
set_option maxRecDepth 100000 in
set_option maxHeartbeats 6400000 in
theorem rcmp_big (s t : Bool) (a b : Nat) (ha : Hid (a < M)) (hb : Hid (b < M)) (hf : ¬ (sg s a - sg t b).natAbs < M) (w : World) : Calls Tryz.prog 76 #[iv s a, iv t b] w (Ret (.int .i64 (cmpZ (sg s a - sg t b))) w) := by
  have HX := Lib.hid (fun w => rfix_any s a ha w)
  have HY := Lib.hid (fun w => rless_any t b hb w)
  have hy0 := nv_lt (show (sg t b).natAbs < M by rw [sg_abs]; exact hb.out)
  have hxM : (sg s a).natAbs < M := by rw [sg_abs]; exact ha.out
  have HA := fun w => radd_any (ng (sg s a)) (ng (- sg t b)) (sg s a).natAbs (- sg t b).natAbs (Lib.hid hxM) (Lib.hid hy0) w
  rw [sg_ng, sg_ng, ← Int.sub_eq_add_neg] at HA
  rw [fv_big hf] at HA
  have hc := cmp_cases (sg s a)
  have e := cmpZ_far hxM (show (sg t b).natAbs < M by rw [sg_abs]; exact hb.out) hf
  rw [e] at hc
  have HM := Lib.hid hxM
  have HA := Lib.hid HA
  clear hy0 hf e hxM
  unfold nv at HX HY
  generalize cmpZ (sg s a - sg t b) = c at *
  generalize ng (sg s a) = p at *
  generalize (sg s a).natAbs = m at *
  generalize ng (- sg t b) = py at *
  generalize (- sg t b).natAbs = my at *
  refine enter fun u => ?_
  go_enter Tryz.func76, Tryz.ntmps76
  go_wp2_with (first
    | ((with_reducible refine ls_skip ?_ ?_); (exact rfl); (try simp only [Act.put, List.setIfInBounds_toArray, List.set_cons_succ, List.set_cons_zero]))
    | ((with_reducible refine ck_box ?_); refine list_box rfl fun _ _ => ?_))
  try simp only [Act.put, List.setIfInBounds_toArray, List.set_cons_succ, List.set_cons_zero]
  refine region_mixS [.take 0, .take 2, .take 1, .take 3, .take 4, .take 5, .take 6, .take 7, .sole 8, .sole 9, .sole 10] _ (Sub.both (h := Sub.both (h := Sub.nil))) (by kernel_rfl) (by kernel_rfl) ?_
  simp only [picksM, Mv.pick, List.filterMap_cons, List.filterMap_nil, List.getElem?_cons_zero, List.getElem?_cons_succ, Option.map_some]
  refine sm_load rfl inferInstance inferInstance ?_
  try simp only [Act.put, List.setIfInBounds_toArray, List.set_cons_succ, List.set_cons_zero]
  refine sm_load rfl inferInstance inferInstance ?_
  try simp only [Act.put, List.setIfInBounds_toArray, List.set_cons_succ, List.set_cons_zero]
  refine sm_call (f := 13) (args := #[iv s a]) (by intro w; go_simp) (fun _ u => HX.out _) ?_
  try simp only [Act.put, List.setIfInBounds_toArray, List.set_cons_succ, List.set_cons_zero]
  refine sm_call (f := 116) (args := #[iv t b]) (by intro w; go_simp) (fun _ u => HY.out _) ?_
  try simp only [Act.put, List.setIfInBounds_toArray, List.set_cons_succ, List.set_cons_zero]
  refine sm_call (f := 81) (args := #[iv p m, iv py my]) (by intro w; go_simp) (fun _ u => HA.out _) ?_
  try simp only [Act.put, List.setIfInBounds_toArray, List.set_cons_succ, List.set_cons_zero]
  refine sm_value (v := .tuple #[iv false 0, .bool false]) (by intro w; go_simp) ?_
  try simp only [Act.put, List.setIfInBounds_toArray, List.set_cons_succ, List.set_cons_zero]
  refine sm_value (v := iv false 0) (by intro w; go_simp) ?_
  try simp only [Act.put, List.setIfInBounds_toArray, List.set_cons_succ, List.set_cons_zero]
  refine sm_value (v := .bool false) (by intro w; go_simp) ?_
  try simp only [Act.put, List.setIfInBounds_toArray, List.set_cons_succ, List.set_cons_zero]
  refine so_alloc inferInstance inferInstance fun _ => ?_
  try simp only [Act.put, List.setIfInBounds_toArray, List.set_cons_succ, List.set_cons_zero]
  refine so_store rfl rfl inferInstance inferInstance inferInstance inferInstance ?_
  try simp only [Act.put, List.setIfInBounds_toArray, List.set_cons_succ, List.set_cons_zero]
  refine so_value (v := .bool false) inferInstance (by intro w; go_simp) ?_
  try simp only [Act.put, List.setIfInBounds_toArray, List.set_cons_succ, List.set_cons_zero]
  refine sm_nil fun u7 => ?_
  rcases hc with ⟨rfl, rfl⟩ | ⟨rfl, rfl, rfl⟩ | ⟨rfl, hm, rfl⟩
  · go_wp2_with (first
      | ((with_reducible refine ls_skip ?_ ?_); (exact rfl); (try simp only [Act.put, List.setIfInBounds_toArray, List.set_cons_succ, List.set_cons_zero]))
      | ((with_reducible refine ck_load ?_); first | refine ls_load rfl inferInstance inferInstance ?_ | refine ls_cell rfl inferInstance inferInstance ?_)
      | ((with_reducible refine ck_store ?_); refine ls_store rfl rfl inferInstance inferInstance inferInstance fun _ => ?_)
      | (go_at_call 13; (with_reducible refine (HX.out _).mono ?_); rintro e w' ⟨rfl, hb'⟩; obtain ⟨_, rfl⟩ := KW.go _ hb'; clear hb'))
    go_ret
    exact ⟨rfl, KW.below _⟩
  · go_wp2_with (first
      | ((with_reducible refine ls_skip ?_ ?_); (exact rfl); (try simp only [Act.put, List.setIfInBounds_toArray, List.set_cons_succ, List.set_cons_zero]))
      | ((with_reducible refine ck_load ?_); first | refine ls_load rfl inferInstance inferInstance ?_ | refine ls_cell rfl inferInstance inferInstance ?_)
      | ((with_reducible refine ck_store ?_); refine ls_store rfl rfl inferInstance inferInstance inferInstance fun _ => ?_)
      | ((with_reducible refine ck_build (t := 24) (xs := #[]) ?_); refine ls_W0 ?_)
      | (go_at_call 13; (with_reducible refine (HX.out _).mono ?_); rintro e w' ⟨rfl, hb'⟩; obtain ⟨_, rfl⟩ := KW.go _ hb'; clear hb'))
    go_ret
    exact ⟨rfl, KW.below _⟩
  · have heq := eqF5 m HM.out hm
    clear hm
    go_wp2_with (first
      | ((with_reducible refine ls_skip ?_ ?_); (exact rfl); (try simp only [Act.put, List.setIfInBounds_toArray, List.set_cons_succ, List.set_cons_zero]))
      | ((with_reducible refine ck_load ?_); first | refine ls_load rfl inferInstance inferInstance ?_ | refine ls_cell rfl inferInstance inferInstance ?_)
      | ((with_reducible refine ck_store ?_); refine ls_store rfl rfl inferInstance inferInstance inferInstance fun _ => ?_)
      | ((with_reducible refine ck_build (t := 24) (xs := #[]) ?_); refine ls_W0 ?_)
      | (go_at_call 13; (with_reducible refine (HX.out _).mono ?_); rintro e w' ⟨rfl, hb'⟩; obtain ⟨_, rfl⟩ := KW.go _ hb'; clear hb'))
    go_ret
    exact ⟨rfl, KW.below _⟩
theorem rcmp_any (s t : Bool) (a b : Nat) (ha : Hid (a < M)) (hb : Hid (b < M)) (w : World) : Calls Tryz.prog 76 #[iv s a, iv t b] w (Ret (.int .i64 (cmpZ (sg s a - sg t b))) w) := by
  by_cases hf : (sg s a - sg t b).natAbs < M
  · exact rcmp_fit s t a b ha hb hf w
  · exact rcmp_big s t a b ha hb hf w
set_option maxRecDepth 100000 in
set_option maxHeartbeats 3200000 in
theorem rtext_any (s : Bool) (a : Nat) (ha : Hid (a < M)) (w : World) : Calls Tryz.prog 48 #[iv s a] w (Ret (vs (zdec (sg s a))) w) := by
  have HX := Lib.hid (fun w => refText_any a ha w)
  have HF := Lib.hid (fun w => rfix_any s a ha w)
  have hl := dec_small a ha.out
  have hab := sg_abs s a
  unfold zdec
  rw [hab]
  unfold nv at HF
  rw [hab] at HF
  obtain ⟨p, hp⟩ : ∃ p, ng (sg s a) = p := ⟨_, rfl⟩
  rw [hp] at HF
  obtain ⟨t, hts⟩ : ∃ t : ByteArray, t = ⟨(decDigits a).toArray⟩ := ⟨_, rfl⟩
  have hsz : t.size ≤ 200 := by rw [hts, ba_size]; exact hl
  unfold vs
  rw [← hts] at HX
  refine enter fun u => ?_
  go_enter Tryz.func48, Tryz.ntmps48
  cases p
  · rw [if_neg (of_decide_eq_false hp), ← hts]
    clear hp hts hl hab
    go_wp2_with (first
      | ((with_reducible refine ls_skip ?_ ?_); (exact rfl); (try simp only [Act.put, List.setIfInBounds_toArray, List.set_cons_succ, List.set_cons_zero]))
      | ((with_reducible refine ck_box ?_); refine list_box rfl fun _ _ => ?_)
      | ((with_reducible refine ck_load ?_); first | refine ls_load rfl inferInstance inferInstance ?_ | refine ls_cell rfl inferInstance inferInstance ?_)
      | (go_at_call 49; (with_reducible refine (HX.out _).mono ?_); rintro e w' ⟨rfl, hb'⟩; obtain ⟨_, rfl⟩ := KW.go _ hb'; clear hb')
      | (go_at_call 13; (with_reducible refine (HF.out _).mono ?_); rintro e w' ⟨rfl, hb'⟩; obtain ⟨_, rfl⟩ := KW.go _ hb'; clear hb'))
    go_ret
    exact ⟨rfl, KW.below _⟩
  · rw [if_pos (of_decide_eq_true hp), ← minus_app (decDigits a), ← hts]
    clear hp hts hl hab
    go_wp2_with (first
      | ((with_reducible refine ls_skip ?_ ?_); (exact rfl); (try simp only [Act.put, List.setIfInBounds_toArray, List.set_cons_succ, List.set_cons_zero]))
      | ((with_reducible refine ck_box ?_); refine list_box rfl fun _ _ => ?_)
      | ((with_reducible refine ck_load ?_); first | refine ls_load rfl inferInstance inferInstance ?_ | refine ls_cell rfl inferInstance inferInstance ?_)
      | (go_at_call 49; (with_reducible refine (HX.out _).mono ?_); rintro e w' ⟨rfl, hb'⟩; obtain ⟨_, rfl⟩ := KW.go _ hb'; clear hb')
      | (go_at_call 13; (with_reducible refine (HF.out _).mono ?_); rintro e w' ⟨rfl, hb'⟩; obtain ⟨_, rfl⟩ := KW.go _ hb'; clear hb'))
    go_ret
    exact ⟨rfl, KW.below _⟩
end Go.Proofs.YtacicfmalhhceaaGreatDoor.SignW

/- The laws of layer 5: the layer's own example; contracts on numbers that may be. -/
namespace Go.Proofs.YtacicfmalhhceaaGreatDoor.SignW
open Go.RowKit
open DigM WideM WideV KM DigW WideW QuotW QuotM DecM FmtW SignM
open Go.Lib (decDigits nDigits)
def TrueAt5 (w : World) (e : Ending) (w' : World) : Prop := e = .returned (.bool true) ∧ Below w.heap.size w w'
section
variable {x y : Int} (hx : Hid (x.natAbs < M)) (hy : Hid (y.natAbs < M)) (w : World)
include hx
theorem sfix_nv : Calls Tryz.prog 66 #[nv x] w (Ret (nv x) w) := by have := fix_any (ng x) x.natAbs hx w; rwa [sg_ng] at this
theorem small_nv : Calls Tryz.prog 32 #[nv x] w (Ret (smallV x) w) := by have := small_any (ng x) x.natAbs hx w; rwa [sg_ng] at this
theorem stext_nv (ht : Tab w) : Calls Tryz.prog 46 #[nv x] w (Ret (vs (zdec x)) w) := by have := stext_any (ng x) x.natAbs hx w ht; rwa [sg_ng] at this
theorem rfix_nv : Calls Tryz.prog 13 #[nv x] w (Ret (nv x) w) := by have := rfix_any (ng x) x.natAbs hx w; rwa [sg_ng] at this
theorem rless_nv : Calls Tryz.prog 116 #[nv x] w (Ret (nv (-x)) w) := by have := rless_any (ng x) x.natAbs hx w; rwa [sg_ng] at this
include hy
theorem sadd_nv : Calls Tryz.prog 80 #[nv x, nv y] w (Ret (fv (x + y)) w) := by have := sadd_any (ng x) (ng y) x.natAbs y.natAbs hx hy w; rwa [sg_ng, sg_ng] at this
theorem smul_nv : Calls Tryz.prog 79 #[nv x, nv y] w (Ret (fv (x * y)) w) := by have := smul_any (ng x) (ng y) x.natAbs y.natAbs hx hy w; rwa [sg_ng, sg_ng] at this
theorem scmp_any (w : World) : Calls Tryz.prog 73 #[nv x, nv y] w (Ret (.int .i64 (cmpZ (x - y))) w) := scmp_nv x y hx hy (ng x) (ng y) x.natAbs y.natAbs (sg_ng x) (sg_ng y) hx hy w
theorem radd_nv : Calls Tryz.prog 81 #[nv x, nv y] w (Ret (fv (x + y)) w) := by have := radd_any (ng x) (ng y) x.natAbs y.natAbs hx hy w; rwa [sg_ng, sg_ng] at this
theorem rmul_nv : Calls Tryz.prog 75 #[nv x, nv y] w (Ret (fv (x * y)) w) := by have := rmul_any (ng x) (ng y) x.natAbs y.natAbs hx hy w; rwa [sg_ng, sg_ng] at this
theorem rcmp_nv : Calls Tryz.prog 76 #[nv x, nv y] w (Ret (.int .i64 (cmpZ (x - y))) w) := by have := rcmp_any (ng x) (ng y) x.natAbs y.natAbs hx hy w; rwa [sg_ng, sg_ng] at this
end
theorem small_M {n : Nat} (h : n < 18446744073709551617) : n < M := Nat.lt_trans h m_big
theorem dig4 : decDigits 4 = [52] := by rw [DecM.dec_small (by decide)]; decide +kernel
/-- what the layer's example reckons with -/
theorem example_parts5 : ∃ p q r o : Value, p = nv (-7) ∧ q = nv 2 ∧ (∃ m : Nat, r = iv true m ∧ Hid (
    (∀ w, Calls Tryz.prog 34 #[.int .i64 (-7)] w (Ret p w)) ∧ (∀ w, Calls Tryz.prog 34 #[.int .i64 2] w (Ret q w)) ∧ (∀ w, Calls Tryz.prog 34 #[.int .i64 1] w (Ret o w)) ∧
    (∀ w, Calls Tryz.prog 62 #[p, q] w (Ret (.tuple #[iv true m, .int .i64 0]) w)) ∧
    (∀ w, Calls Tryz.prog 32 #[iv true m] w (Ret (.tuple #[.int .i64 (-4), .bool true]) w)) ∧
    (∀ w, Tab w → Calls Tryz.prog 46 #[iv true m] w (Ret (.string ⟨#[45, 52]⟩) w)) ∧
    (∀ w, Calls Tryz.prog 73 #[iv true m, o] w (Ret (.int .i64 (-1)) w)))) := by
  have h4 : Hid ((-4 : Int).natAbs < M) := Lib.hid (small_M (by decide))
  have h1 : Hid ((1 : Int).natAbs < M) := Lib.hid (small_M (by decide))
  refine ⟨nv (-7), nv 2, _, nv 1, rfl, rfl, 4, rfl, Lib.hid ⟨fun w => sof_any (-7) (by decide) (by decide) w, fun w => sof_any 2 (by decide) (by decide) w, fun w => sof_any 1 (by decide) (by decide) w, fun w => ?_, fun w => ?_, fun w ht => ?_, fun w => ?_⟩⟩
  · exact sover_some true false 7 2 (Lib.hid (small_M (by decide))) (Lib.hid (small_M (by decide))) (by decide) w
  · exact small_nv h4 w
  · have := stext_nv h4 w ht
    unfold zdec vs at this
    rw [if_pos (by decide), show (-4 : Int).natAbs = 4 from rfl, dig4] at this
    exact this
  · exact scmp_any h4 h1 w
end Go.Proofs.YtacicfmalhhceaaGreatDoor.SignW

/- Arguments of layer 5, handed in as data: structs of a sign and eight words are numbers with a sign. -/
namespace Go.Proofs.YtacicfmalhhceaaGreatDoor.SignW
open Go.RowKit Go.WideShapes Go.ChangeShapes
open WideM WideV
section
variable {P : Program} {H : Type} {enc : TypeId × Value → H} {w : World} {base : Nat} {sp : Nat → Bool} {held : Bool}
/-- cells that read as an array of integers -/
theorem arr_ints {t e : TypeId} {n fuel : Nat} {k : IntKind} {l : List Value} {x : DataW H × List MemPlace}
    (ht : P.underlying t = some (.array n e)) (he : P.underlying e = some (.int k)) (hce : P.cellsOf e = 1) (hct : P.cellsOf t = n) (hf : DataW.trod enc P w base sp held fuel t l = some x) :
    ∃ zs : List Int, l = zs.map (Value.int k) ∧ zs.length = n ∧ ∀ z ∈ zs, (Lit.int k z).wf = true := by
  obtain ⟨xs, m, _, _, hl, hxl, hx⟩ := DataW.trod_array ht hf
  rw [hct] at hl
  rw [hce] at hx
  have each : ∀ i, i < n → ∃ z, l[i]? = some (.int k z) ∧ (Lit.int k z).wf = true := by
    intro i hi
    have h1 := hx i hi
    have h2 : xs[i]? = some (xs[i]'(by omega)) := List.getElem?_eq_getElem _
    rw [h2] at h1
    obtain ⟨z, hc, _, hw⟩ := DataW.trod_int he h1
    refine ⟨z, ?_, hw⟩
    have := congrArg (·[0]?) hc
    simpa [List.getElem?_take, List.getElem?_drop] using this
  refine ⟨(List.range n).map fun i => intOf (l[i]?.getD .nilIface), ?_, by simp, ?_⟩
  · apply List.ext_getElem?
    intro i
    by_cases hi : i < n
    · obtain ⟨z, hz, _⟩ := each i hi
      simp [hi, hz, intOf]
    · simp [hi]; omega
  · intro z hz
    obtain ⟨i, hi, rfl⟩ := List.mem_map.1 hz
    rw [List.mem_range] at hi
    obtain ⟨z, hz, hw⟩ := each i hi
    rw [hz]; exact hw
end
section
variable {H : Type} {enc : TypeId × Value → H} {w : World} {base b0 : Nat} {sp : Nat → Bool} {held : Bool} {r : Reach} {v : Value} {d : DataW H} {p : List MemPlace}
set_option maxRecDepth 100000 in
theorem open_int (hv : Value.okWide Tryz.prog w r b0 26 v) (h : DataW.Trod enc Tryz.prog w base sp held 26 v d p) : ∃ (s : Bool) (a : Nat), a < M ∧ v = iv s a := by
  obtain ⟨cs, rfl, hsz⟩ := okWide_struct Tryz.underlying26 hv
  obtain ⟨fuel, hf⟩ := h
  obtain ⟨y0, y1, n, _, hl, h0, h1⟩ := trod_struct2 Tryz.underlying26 hf
  have hc0 : Tryz.prog.cellsOf 4 = 1 := by kernel_rfl
  have hc1 : Tryz.prog.cellsOf 24 = 8 := by kernel_rfl
  have hc : Tryz.prog.cellsOf 26 = 9 := by kernel_rfl
  have ecs : (Value.agg cs).cells.toList = cs.toList := rfl
  rw [ecs] at h0 h1 hl
  rw [hc] at hl
  replace h0 : DataW.trod enc Tryz.prog w base sp held n 4 ((cs.toList.drop 0).take (Tryz.prog.cellsOf 4)) = some y0 := h0
  replace h1 : DataW.trod enc Tryz.prog w base sp held n 24 ((cs.toList.drop 1).take (Tryz.prog.cellsOf 24)) = some y1 := h1
  rw [hc0, List.drop_zero] at h0
  rw [hc1] at h1
  obtain ⟨zs, hzs, hzl, hw⟩ := arr_ints Tryz.underlying24 Tryz.underlying22 (by kernel_rfl) hc1 h1
  obtain ⟨a, ha, ea⟩ := WideA.wide_of hzl hw
  obtain ⟨s, hs, _⟩ := DataW.trod_bool Tryz.underlying4 h0
  refine ⟨s, a, ha, ?_⟩
  have e : cs.toList = [.bool s] ++ (cells 8 a).toList := by
    rw [← List.take_append_drop 1 cs.toList, hs, ← ea]
    congr 1
    rw [← hzs, List.take_of_length_le (by simp [hl])]
  have e2 : cs = ([Value.bool s] ++ (cells 8 a).toList).toArray := by rw [← e]
  rw [e2]
  rfl
end
end Go.Proofs.YtacicfmalhhceaaGreatDoor.SignW

