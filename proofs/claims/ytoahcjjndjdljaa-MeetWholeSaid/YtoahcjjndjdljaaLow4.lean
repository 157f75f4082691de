/-
  Texts of the layers below in one: IntMath Int Sign Sign2 Sign3 Sign4 SignRef SignRef2 SignRef3 SignLaws IntArgs.
-/
import Derived.Test.YtoahcjjndjdljaaLow3
import Derived.Test.YtoahcjjndjdljaaBase
import Derived.Laws.StructEq
import Derived.Test.YtoahcjjndjdljaaLow2
import Derived.WideShapes
import Derived.ChangeSame
/- Numbers with a sign: plain facts. -/
namespace SignM
open WideM
def sg (s : Bool) (n : Nat) : Int := if s = true then -(n : Int) else n
/-- is it below 0? -/
def ng (z : Int) : Bool := decide (z < 0)
def fitI (z : Int) : Bool := decide (z.natAbs < M)
def lowI (z : Int) : Int := if z.natAbs < M then z else 0
theorem sg_f (n : Nat) : sg false n = n := rfl
theorem sg_t (n : Nat) : sg true n = -(n : Int) := rfl
theorem sg_abs (s : Bool) (n : Nat) : (sg s n).natAbs = n := by cases s <;> simp [sg]
theorem sg_ng (z : Int) : sg (ng z) z.natAbs = z := by
  unfold sg ng
  by_cases h : z < 0
  · simp only [h, decide_true, if_true]; omega
  · simp only [h, decide_false, Bool.false_eq_true, if_false]; omega
theorem ng_sg (s : Bool) (n : Nat) : ng (sg s n) = (s && !eqB n 0) := by
  cases s
  · rw [sg_f]; unfold ng; rw [decide_eq_false (by omega)]; rfl
  · rw [sg_t]
    unfold ng eqB
    by_cases h : n = 0
    · subst h; rfl
    · rw [decide_eq_true (by omega), decide_eq_false h]; rfl
theorem low_fit {z : Int} (h : z.natAbs < M) : lowI z = z := if_pos h
theorem low_big {z : Int} (h : ¬ z.natAbs < M) : lowI z = 0 := if_neg h
theorem lowI_lt (z : Int) : (lowI z).natAbs < M := by unfold lowI; split; assumption; exact M_pos
theorem fit_yes {z : Int} (h : z.natAbs < M) : fitI z = true := decide_eq_true h
theorem fit_no {z : Int} (h : ¬ z.natAbs < M) : fitI z = false := decide_eq_false h
/-- numbers of both signs: the sum is what is between them -/
theorem sg_apart {s t : Bool} {a b : Nat} (h : s ≠ t) (hab : b ≤ a) : sg s (a - b) = sg s a + sg t b := by
  cases s <;> cases t <;> first | exact absurd rfl h | (simp only [sg_t, sg_f]; omega)
theorem sg_same (s : Bool) (a b : Nat) : sg s (a + b) = sg s a + sg s b := by
  cases s <;> simp only [sg_t, sg_f] <;> omega
theorem sg_mul (s t : Bool) (a b : Nat) : sg (s != t) (a * b) = sg s a * sg t b := by
  cases s <;> cases t <;> simp [sg, Int.mul_neg, Int.neg_mul]
theorem sg_not (s : Bool) (a : Nat) : sg (!s) a = - sg s a := by cases s <;> simp [sg]
end SignM

/- Numbers with a sign as values: how they lie in memory, are built, read and compared. -/
namespace Go.Proofs.Ytoahcjjndjdljaa.SignW
open Go.RowKit
open DigM WideM WideV KM DigW WideW QuotW QuotM DecM FmtW
/-- the cells of a number with a sign -/
def ic (s : Bool) (n : Nat) : Array Value := #[.bool s, .int .u64 (wd n 0 : Nat), .int .u64 (wd n 1 : Nat), .int .u64 (wd n 2 : Nat), .int .u64 (wd n 3 : Nat), .int .u64 (wd n 4 : Nat), .int .u64 (wd n 5 : Nat), .int .u64 (wd n 6 : Nat), .int .u64 (wd n 7 : Nat)]
abbrev iv (s : Bool) (n : Nat) : Value := .agg (ic s n)
theorem ic_size (s : Bool) (n : Nat) : (ic s n).size = 9 := rfl
@[simp] theorem ic_0 (s : Bool) (n : Nat) : (ic s n)[0]? = some (.bool s) := rfl
@[simp] theorem ic_0' (s : Bool) (n : Nat) (h : 0 < (ic s n).size) : (ic s n)[0]'h = .bool s := rfl
theorem rowI (s : Bool) (n : Nat) : Row Try.prog 39 (ic s n).size := ⟨by kernel_rfl, by kernel_rfl⟩
instance celW (n : Nat) : Cel Try.prog 37 (cells 8 n) := ⟨by rw [cells_size]; exact rowW, cells_one _ _⟩
instance celI (s : Bool) (n : Nat) : Cel Try.prog 39 (ic s n) := ⟨rowI s n, by kernel_rfl⟩
instance partI (s : Bool) (n : Nat) : Part Try.prog 37 (ic s n) 1 (cells 8 n) := ⟨by rw [cells_size]; exact rowW, fun j hj => by
  rw [cells_size] at hj
  rw [cells_get hj]
  match j, hj with
  | 0, _ => rfl | 1, _ => rfl | 2, _ => rfl | 3, _ => rfl | 4, _ => rfl | 5, _ => rfl | 6, _ => rfl | 7, _ => rfl⟩
instance putW (m n : Nat) : PutP Try.prog 37 (cells 8 m) 0 (cells 8 n) (cells 8 n) := PutP.of inferInstance (by simp)
instance putI (s t : Bool) (m n : Nat) : PutP Try.prog 39 (ic s m) 0 (ic t n) (ic t n) := PutP.of inferInstance rfl
instance putIW (s : Bool) (m n : Nat) : PutP Try.prog 37 (ic s m) 1 (cells 8 n) (ic s n) := ⟨by rw [cells_size]; exact rowW, cells_one _ _, by rw [cells_size]; exact Nat.le_refl 9, by kernel_rfl⟩
instance zerW : ZeroC Try.prog 37 (cells 8 0) := ⟨zeroW⟩
instance zerI : ZeroC Try.prog 39 (ic false 0) := ⟨by unfold KM.Zero; kernel_rfl⟩
instance putIs (s b : Bool) (n : Nat) : PutV Try.prog 4 (ic s n) 0 (.bool b) (ic b n) := ⟨by kernel_rfl, rfl, rfl, by rw [ic_size]; decide, rfl⟩
section
variable {ops : Array Oper} {Q : Exit → Act → World → Prop} {rest : List Oper} {a : Act} {w : World} {d : Option Tmp} {ty : TypeId} {ps : String} {af : Array Edge} {gd : Option (Nat × Bool)} {x y : Operand} {s : Bool} {n : Nat}
theorem exec_mag {g : Nat} (hx : a.eval x = .pointer (some ⟨g, 0, none⟩)) (w : World) : (execOp a.eval ⟨d, .fieldAddr 39 x 1, ty, ps, af, gd⟩).run Try.prog w = .ok (.value (.pointer (some ⟨g, 1, none⟩))) w := by
  unfold execOp
  simp only [hx]
  go_simp
theorem exec_field1 {g : Nat} (hx : a.eval x = .pointer (some ⟨g, 0, none⟩)) (w : World) : (execOp a.eval ⟨d, .fieldAddr 39 x 1, ty, ps, af, gd⟩).run Try.prog w = .ok (.value (.pointer (some ⟨g, 1, none⟩))) w := exec_mag hx w
theorem exec_field0 {g : Nat} (hx : a.eval x = .pointer (some ⟨g, 0, none⟩)) (w : World) : (execOp a.eval ⟨d, .fieldAddr 39 x 0, ty, ps, af, gd⟩).run Try.prog w = .ok (.value (.pointer (some ⟨g, 0, none⟩))) w := by
  unfold execOp
  simp only [hx]
  go_simp
theorem exec_I (hx : a.eval x = .bool s) (hy : a.eval y = .agg (cells 8 n)) (w : World) : (execOp a.eval ⟨d, .build 39 #[(0, x), (1, y)], ty, ps, af, gd⟩).run Try.prog w = .ok (.value (.agg (ic s n))) w :=
  exec_build (by simp only [List.map_toArray, List.map_cons, List.map_nil, hx, hy]; kernel_rfl) w
theorem exec_I1 (hy : a.eval y = .agg (cells 8 n)) (w : World) : (execOp a.eval ⟨d, .build 39 #[(1, y)], ty, ps, af, gd⟩).run Try.prog w = .ok (.value (.agg (ic false n))) w :=
  exec_build (by simp only [List.map_toArray, List.map_cons, List.map_nil, hy]; kernel_rfl) w
theorem exec_I0 (w : World) : (execOp a.eval ⟨d, .build 39 #[], ty, ps, af, gd⟩).run Try.prog w = .ok (.value (.agg (ic false 0))) w := exec_build (by kernel_rfl) w
theorem exec_W0 (w : World) : (execOp a.eval ⟨d, .build 37 #[], ty, ps, af, gd⟩).run Try.prog w = .ok (.value (.agg (cells 8 0))) w := exec_build (by kernel_rfl) w
theorem exec_W1 (hy : a.eval y = .int .u64 (n : Nat)) (hn : n < B) (w : World) : (execOp a.eval ⟨d, .build 37 #[(0, y)], ty, ps, af, gd⟩).run Try.prog w = .ok (.value (.agg (cells 8 n))) w := by
  have h0 : cells 8 (put 0 0 n) = (cells 8 0).setIfInBounds 0 (.int .u64 (n : Nat)) := (cells_set hn).symm
  rw [put_small (by simp), Nat.zero_add, Nat.pow_zero, Nat.one_mul] at h0
  have hb : Try.prog.built 37 [(0, .int .u64 (n : Nat))] = some ((cells 8 0).setIfInBounds 0 (.int .u64 (n : Nat))) := by kernel_rfl
  rw [← h0] at hb
  exact exec_build (by simp only [List.map_toArray, List.map_cons, List.map_nil, hy]; exact hb) w
theorem ls_I (hx : a.eval x = .bool s) (hy : a.eval y = .agg (cells 8 n)) (h : wpList Try.prog ops Q rest (a.put d (.agg (ic s n))) w) : wpList Try.prog ops Q (⟨d, .build 39 #[(0, x), (1, y)], ty, ps, af, none⟩ :: rest) a w := ls_value (exec_I hx hy w) h
theorem ls_I1 (hy : a.eval y = .agg (cells 8 n)) (h : wpList Try.prog ops Q rest (a.put d (.agg (ic false n))) w) : wpList Try.prog ops Q (⟨d, .build 39 #[(1, y)], ty, ps, af, none⟩ :: rest) a w := ls_value (exec_I1 hy w) h
theorem ls_I0 (h : wpList Try.prog ops Q rest (a.put d (.agg (ic false 0))) w) : wpList Try.prog ops Q (⟨d, .build 39 #[], ty, ps, af, none⟩ :: rest) a w := ls_value (exec_I0 w) h
theorem lsg_I0 (hw : Region.wanted ⟨d, .build 39 #[], ty, ps, af, gd⟩ (yielded ops a.tmps) = true) (h : wpList Try.prog ops Q rest (a.put d (.agg (ic false 0))) w) : wpList Try.prog ops Q (⟨d, .build 39 #[], ty, ps, af, gd⟩ :: rest) a w := lsg_value hw (exec_I0 w) h
theorem ls_W0 (h : wpList Try.prog ops Q rest (a.put d (.agg (cells 8 0))) w) : wpList Try.prog ops Q (⟨d, .build 37 #[], ty, ps, af, none⟩ :: rest) a w := ls_value (exec_W0 w) h
theorem ls_W1 (hy : a.eval y = .int .u64 (n : Nat)) (hn : Hid (n < B)) (h : wpList Try.prog ops Q rest (a.put d (.agg (cells 8 n))) w) : wpList Try.prog ops Q (⟨d, .build 37 #[(0, y)], ty, ps, af, none⟩ :: rest) a w := ls_value (exec_W1 hy hn.out w) h
end
@[simp] theorem fieldI0 (s : Bool) (n : Nat) (w : World) : (Instr.field 39 (.agg (ic s n)) 0).run Try.prog w = .ok (.bool s) w := by
  have hp : Try.prog.plainKey 4 = true := by kernel_rfl
  have hu : Try.prog.underlying 39 = some (.struct (Try.prog.fieldsOf 39)) := by kernel_rfl
  have h0 : (Try.prog.fieldsOf 39)[0]?.map (fun f => (f.type, f.offset)) = some (4, 0) := by kernel_rfl
  obtain ⟨f, hf, hf'⟩ := Option.map_eq_some_iff.1 h0
  obtain ⟨e1, e2⟩ := Prod.mk.inj hf'
  simp only [Instr.field, Sem.run_bind, run_underlying hu, Result.andThen_ok, hf, e1, e2]
  simp only [asAgg, Sem.run_pure, Result.andThen_ok, run_part_plain w hp (ic_0 s n)]
theorem eqlW_d (d : Nat) (a b : Nat) (ha : a < M) (hb : b < M) (w : World) : (Op.equalIn (d + 2) 37 (.agg (cells 8 a)) (.agg (cells 8 b))).run Try.prog w = .ok (eqB a b) w := by
  have hu := Try.underlying37
  have he := Try.underlying35
  have hc : Try.prog.cellsOf 35 = 1 := by kernel_rfl
  obtain ⟨i, hi⟩ := info_of_underlying he
  rw [run_equalIn_array w (d + 1) (cells 8 a) (cells 8 b) hu hi, hc, eqItems_words d he w 8 a b _ (fun i hi => List.mem_range.1 hi)]
  refine congrArg (fun b => Result.ok b w) ?_
  unfold eqB
  rw [Bool.eq_iff_iff, List.all_eq_true, decide_eq_true_eq]
  refine ⟨fun h => ext_words ha hb fun i hi => by simpa using h i (List.mem_range.2 hi), fun h => ?_⟩
  subst h
  intro i _
  simp
/-- two numbers with a sign are the same -/
theorem eqlI (s t : Bool) (a b : Nat) (ha : a < M) (hb : b < M) (w : World) : (Op.equalIn 10000 39 (.agg (ic s a)) (.agg (ic t b))).run Try.prog w = .ok (s == t && eqB a b) w := by
  have hS : Try.prog.underlying 39 = some (.struct (Try.prog.fieldsOf 39)) := by kernel_rfl
  have hF : (Try.prog.fieldsOf 39).toList.map (fun f => (f.name ≠ "_" : Bool) && (f.type, f.offset) == (f.type, f.offset)) = [true, true] := by kernel_rfl
  have hF2 : (Try.prog.fieldsOf 39).toList.map (fun f => (f.type, f.offset)) = [(4, 0), (37, 1)] := by kernel_rfl
  rw [show (10000 : Nat) = 9999 + 1 from rfl, run_equalIn_struct w 9999 _ _ _ hS (by kernel_rfl)]
  generalize (Try.prog.fieldsOf 39).toList = fs at hF hF2
  obtain ⟨f, fs1, rfl, e1, hF2⟩ := List.map_eq_cons_iff.1 hF2
  obtain ⟨g, fs2, rfl, e2, hF2⟩ := List.map_eq_cons_iff.1 hF2
  obtain rfl := List.map_eq_nil_iff.1 hF2
  simp only [List.map_cons, List.map_nil, List.cons.injEq, Prod.mk.injEq, and_true, beq_self_eq_true, Bool.and_true, decide_eq_true_eq] at hF e1 e2
  obtain ⟨f1, f2⟩ := e1
  obtain ⟨g1, g2⟩ := e2
  have hp : Try.prog.plainKey 4 = true := by kernel_rfl
  have hW : ∀ (s : Bool) (n : Nat) (w : World), (part 37 (ic s n) 1).run Try.prog w = .ok (.agg (cells 8 n)) w := fun s n w => by
    rw [run_part_row rowW, show (ic s n).extract 1 (1 + 8) = cells 8 n by kernel_rfl]
  simp only [Op.eqFields, if_pos hF.1, if_pos hF.2, Sem.run_bind, f1, f2, g1, g2, run_part_plain w hp (ic_0 _ _), Result.andThen_ok, run_equalIn_bool w 9998 4 s t Try.underlying4]
  by_cases h : s = t
  · subst h
    have e := eqlW_d 9997 a b ha hb w
    rw [beq_self_eq_true, Bool.true_and, Bool.not_true, if_neg (by decide)]
    simp only [Sem.run_bind, hW, Result.andThen_ok]
    rw [show (9999 : Nat) = 9997 + 2 from rfl, e]
    cases eqB a b <;> rfl
  · have h' : (s == t) = false := by simpa using h
    simp [h']
theorem selfW_d (d : Nat) (a : Nat) (w : World) : (Op.equalIn (d + 2) 37 (.agg (cells 8 a)) (.agg (cells 8 a))).run Try.prog w = .ok true w := by
  have hu := Try.underlying37
  have he := Try.underlying35
  have hc : Try.prog.cellsOf 35 = 1 := by kernel_rfl
  obtain ⟨i, hi⟩ := info_of_underlying he
  rw [run_equalIn_array w (d + 1) (cells 8 a) (cells 8 a) hu hi, hc, eqItems_words d he w 8 a a _ (fun i hi => List.mem_range.1 hi)]
  simp
@[simp] theorem selfI (s : Bool) (a : Nat) (w : World) : (Op.equalIn 10000 39 (.agg (ic s a)) (.agg (ic s a))).run Try.prog w = .ok true w := by
  have hS : Try.prog.underlying 39 = some (.struct (Try.prog.fieldsOf 39)) := by kernel_rfl
  have hF : (Try.prog.fieldsOf 39).toList.map (fun f => (f.name ≠ "_" : Bool) && (f.type, f.offset) == (f.type, f.offset)) = [true, true] := by kernel_rfl
  have hF2 : (Try.prog.fieldsOf 39).toList.map (fun f => (f.type, f.offset)) = [(4, 0), (37, 1)] := by kernel_rfl
  rw [show (10000 : Nat) = 9999 + 1 from rfl, run_equalIn_struct w 9999 _ _ _ hS (by kernel_rfl)]
  generalize (Try.prog.fieldsOf 39).toList = fs at hF hF2
  obtain ⟨f, fs1, rfl, e1, hF2⟩ := List.map_eq_cons_iff.1 hF2
  obtain ⟨g, fs2, rfl, e2, hF2⟩ := List.map_eq_cons_iff.1 hF2
  obtain rfl := List.map_eq_nil_iff.1 hF2
  simp only [List.map_cons, List.map_nil, List.cons.injEq, Prod.mk.injEq, and_true, beq_self_eq_true, Bool.and_true, decide_eq_true_eq] at hF e1 e2
  obtain ⟨f1, f2⟩ := e1
  obtain ⟨g1, g2⟩ := e2
  have hp : Try.prog.plainKey 4 = true := by kernel_rfl
  have hW : ∀ (s : Bool) (n : Nat) (w : World), (part 37 (ic s n) 1).run Try.prog w = .ok (.agg (cells 8 n)) w := fun s n w => by
    rw [run_part_row rowW, show (ic s n).extract 1 (1 + 8) = cells 8 n by kernel_rfl]
  simp only [Op.eqFields, if_pos hF.1, if_pos hF.2, Sem.run_bind, f1, f2, g1, g2, run_part_plain w hp (ic_0 _ _), Result.andThen_ok, run_equalIn_bool w 9998 4 s s Try.underlying4]
  have e := selfW_d 9997 a w
  rw [beq_self_eq_true, Bool.not_true, if_neg (by decide)]
  simp only [Sem.run_bind, hW, Result.andThen_ok]
  rw [show (9999 : Nat) = 9997 + 2 from rfl, e]
  rfl
end Go.Proofs.Ytoahcjjndjdljaa.SignW

/- package sign: contracts over the translation. -/
namespace Go.Proofs.Ytoahcjjndjdljaa.SignW
open Go.RowKit
open DigM WideM WideV KM DigW WideW QuotW QuotM DecM FmtW SignM
/-- a number with a sign that may be -/
abbrev nv (z : Int) : Value := iv (ng z) z.natAbs
theorem nv_sg (s : Bool) (n : Nat) : nv (sg s n) = iv (s && !eqB n 0) n := by unfold nv; rw [ng_sg, sg_abs]
theorem two_ret (z : Int) (h1 : -9223372036854775808 ≤ z) (h2 : z ≤ 9223372036854775807) (w : World) : Calls Try.prog 40 #[.int .i64 z] w (Ret (.tuple #[.bool (ng z), .int .u64 (z.natAbs : Nat)]) w) :=
  (two_any z w h1 h2).mono fun e w' ⟨he, hw⟩ => ⟨he, by rw [← hw]; exact Below.refl _ _⟩
end Go.Proofs.Ytoahcjjndjdljaa.SignW

/- package sign: sum, difference, product, order: contracts over the translation. -/
namespace Go.Proofs.Ytoahcjjndjdljaa.SignW
open Go.RowKit
open DigM WideM WideV KM DigW WideW QuotW QuotM DecM FmtW SignM
/-- a number and whether it fits -/
abbrev fv (z : Int) : Value := .tuple #[nv (lowI z), .bool (fitI z)]
theorem fv_fit {z : Int} (h : z.natAbs < M) : fv z = .tuple #[nv z, .bool true] := by unfold fv; rw [low_fit h, fit_yes h]
theorem fv_big {z : Int} (h : ¬ z.natAbs < M) : fv z = .tuple #[iv false 0, .bool false] := by unfold fv; rw [low_big h, fit_no h]; rfl
theorem apart_lt {s t : Bool} {a b : Nat} (ha : a < M) (hb : b < M) (h : s ≠ t) : (sg s a + sg t b).natAbs < M := by
  cases s <;> cases t <;> first | exact absurd rfl h | (simp only [sg_t, sg_f]; omega)
theorem nv_lt {z : Int} (h : z.natAbs < M) : (-z).natAbs < M := by omega
/-- how a number lies to 0 -/
def cmpZ (z : Int) : Int := if z < 0 then -1 else if z = 0 then 0 else 1
theorem cmpZ_pos {a b : Nat} : cmpI a b = cmpZ ((a : Int) - b) := by
  unfold cmpI cmpZ
  by_cases h : a < b
  · rw [if_pos h, if_pos (by omega)]
  · rw [if_neg h, if_neg (show ¬ ((a : Int) - b < 0) by omega)]
    by_cases h2 : a = b
    · rw [if_pos h2, if_pos (by omega)]
    · rw [if_neg h2, if_neg (by omega)]
end Go.Proofs.Ytoahcjjndjdljaa.SignW

/- package sign: quotient, as an int, as a text: contracts over the translation. -/
namespace Go.Proofs.Ytoahcjjndjdljaa.SignW
open Go.RowKit
open DigM WideM WideV KM DigW WideW QuotW QuotM DecM FmtW SignM
open Go.Lib (decDigits nDigits)
theorem m_big : 18446744073709551617 < M := by unfold M; rw [B_eq]; decide +kernel
/-- a quotient's size, cut down: s and t the signs -/
def ovq (r : Bool) (a b : Nat) : Nat := if r = true ∧ ¬ a % b = 0 then a / b + 1 else a / b
theorem ovq_lt {r : Bool} {a b : Nat} (ha : a < M) : ovq r a b < M := by
  unfold ovq
  split
  · rename_i h
    have h2 : b ≠ 1 := fun e => h.2 (by rw [e]; exact Nat.mod_one a)
    rcases Nat.lt_or_ge b 1 with hb | hb
    · obtain rfl : b = 0 := by omega
      rw [Nat.div_zero]; have := m_big; omega
    · have h3 : a / b ≤ a / 2 := Nat.div_le_div_left (by omega) (by decide)
      have := m_big
      omega
  · exact Nat.lt_of_le_of_lt (Nat.div_le_self a b) ha
end Go.Proofs.Ytoahcjjndjdljaa.SignW

/- package sign: as an int, as a text: contracts over the translation. -/
namespace Go.Proofs.Ytoahcjjndjdljaa.SignW
open Go.RowKit
open DigM WideM WideV KM DigW WideW QuotW QuotM DecM FmtW SignM
open Go.Lib (decDigits nDigits)
theorem exec_neW {a : Act} {d : Option Tmp} {ty : TypeId} {ps : String} {af : Array Edge} {gd : Option (Nat × Bool)} {x y : Operand} {m n : Nat} {b : Bool} (hx : a.eval x = .agg (cells 8 m)) (hy : a.eval y = .agg (cells 8 n)) (hm : m < M) (hn : n < M) (hb : eqB m n = b) (w : World) :
    (execOp a.eval ⟨d, .binOp .neq 37 x y 37, ty, ps, af, gd⟩).run Try.prog w = .ok (.value (.bool (!b))) w := by
  have h := eqlW m n hm hn w
  rw [hb] at h
  unfold execOp
  simp only [hx, hy]
  go_simp
theorem ic_word {s : Bool} {n x : Nat} (h : wd n 0 = x) : (ic s n)[1]? = some (.int .u64 (x : Nat)) := by subst h; rfl
def inI (z : Int) : Bool := decide (-9223372036854775808 ≤ z ∧ z ≤ 9223372036854775807)
def smallV (z : Int) : Value := .tuple #[.int .i64 (if inI z then z else 0), .bool (inI z)]
theorem wd_zero_of {a : Nat} (h : ¬ a < B) (s : Bool) : smallV (sg s a) = .tuple #[.int .i64 0, .bool false] := by
  have e : inI (sg s a) = false := decide_eq_false (by rw [B_eq] at h; cases s <;> simp only [sg_t, sg_f] <;> omega)
  unfold smallV
  rw [e]
  rfl
/-- a number's digits, with its sign -/
def zdec (z : Int) : List UInt8 := if z < 0 then 45 :: decDigits z.natAbs else decDigits z.natAbs
theorem dec_small (a : Nat) (h : a < M) : (decDigits a).length ≤ 200 := by
  rw [Lib.decDigits_length]
  exact nDig_le 199 a (Nat.lt_trans h (by unfold M; rw [B_eq]; decide +kernel))
theorem minus_app (l : List UInt8) : (ByteArray.mk #[45]) ++ (ByteArray.mk l.toArray) = ByteArray.mk (45 :: l).toArray := by
  have := ba_append [45] l
  simpa using this
end Go.Proofs.Ytoahcjjndjdljaa.SignW

/- The document's own answers of layer 5: contracts over the translation. -/
namespace Go.Proofs.Ytoahcjjndjdljaa.SignW
open Go.RowKit
open DigM WideM WideV KM DigW WideW QuotW QuotM DecM FmtW SignM
open Go.Lib (decDigits nDigits)
set_option maxRecDepth 100000 in
set_option maxHeartbeats 3200000 in
theorem rfix_any (s : Bool) (n : Nat) (hn : Hid (n < M)) (w : World) : Calls Try.prog 46 #[iv s n] w (Ret (nv (sg s n)) w) := by
  rw [nv_sg]
  have heq := fun w => eqlW n 0 hn.out M_pos w
  by_cases h : n = 0
  · subst h
    rw [show (s && !eqB 0 0) = false by rw [eqB_same]; cases s <;> rfl]
    clear heq
    refine enter fun u => ?_
    go_enter Try.func46, Try.ntmps46
    go_wp2_with (first
      | ((with_reducible refine ls_skip ?_ ?_); (exact rfl); (try simp only [Act.put, List.setIfInBounds_toArray, List.set_cons_succ, List.set_cons_zero]))
      | ((with_reducible refine ck_box ?_); refine list_box rfl fun _ _ => ?_)
      | ((with_reducible refine ck_alloc ?_); refine ls_alloc inferInstance fun _ _ => ?_)
      | ((with_reducible refine ck_load ?_); first | refine ls_load rfl inferInstance inferInstance ?_ | refine ls_cell rfl inferInstance inferInstance ?_)
      | ((with_reducible refine ck_store ?_); refine ls_store rfl rfl inferInstance inferInstance inferInstance fun _ => ?_)
      | ((with_reducible refine ck_build (t := 37) (xs := #[]) ?_); refine ls_W0 ?_)
      | ((with_reducible refine ck_store ?_); refine ls_put (v := .bool _) rfl rfl inferInstance inferInstance inferInstance fun _ => ?_))
    exact bd_cell Try.results46 rfl inferInstance inferInstance ⟨rfl, KW.below _⟩
  · rw [show eqB n 0 = false from decide_eq_false h] at heq ⊢
    rw [show (s && !false) = s by cases s <;> rfl]
    clear h
    refine enter fun u => ?_
    go_enter Try.func46, Try.ntmps46
    go_wp2_with (first
      | ((with_reducible refine ls_skip ?_ ?_); (exact rfl); (try simp only [Act.put, List.setIfInBounds_toArray, List.set_cons_succ, List.set_cons_zero]))
      | ((with_reducible refine ck_box ?_); refine list_box rfl fun _ _ => ?_)
      | ((with_reducible refine ck_alloc ?_); refine ls_alloc inferInstance fun _ _ => ?_)
      | ((with_reducible refine ck_load ?_); first | refine ls_load rfl inferInstance inferInstance ?_ | refine ls_cell rfl inferInstance inferInstance ?_)
      | ((with_reducible refine ck_store ?_); refine ls_store rfl rfl inferInstance inferInstance inferInstance fun _ => ?_)
      | ((with_reducible refine ck_build (t := 37) (xs := #[]) ?_); refine ls_W0 ?_))
    exact bd_cell Try.results46 rfl inferInstance inferInstance ⟨rfl, KW.below _⟩
set_option maxRecDepth 100000 in
set_option maxHeartbeats 3200000 in
theorem rof_any (z : Int) (h1 : -9223372036854775808 ≤ z) (h2 : z ≤ 9223372036854775807) (w : World) : Calls Try.prog 14 #[.int .i64 z] w (Ret (nv z) w) := by
  unfold nv
  by_cases h : z < 0
  · obtain ⟨m, rfl⟩ : ∃ m : Nat, z = -(m : Int) - 1 := ⟨(-z-1).toNat, by omega⟩
    have e1 : -(m : Int) - 1 + 1 = -(m : Int) := by omega
    have e2 : IntKind.i64.wrap (-(m : Int)) = -(m : Int) := by rw [IntKind.wrap_i64]; omega
    have e3 : (-(m : Int) - 1).natAbs = m + 1 := by omega
    have hd : ng (-(m : Int) - 1) = true := decide_eq_true h
    have HB : Hid (m + 1 < B) := Lib.hid (by rw [B_eq]; omega)
    rw [hd, e3]
    refine enter fun u => ?_
    go_enter Try.func14, Try.ntmps14
    have e4 : IntKind.i64.wrap (m : Int) = m := by rw [IntKind.wrap_i64]; omega
    have e5 : IntKind.u64.wrap (m : Int) = m := by rw [IntKind.wrap_u64]; omega
    have e6 : IntKind.u64.wrap ((m : Int) + 1) = ((m + 1 : Nat) : Int) := by rw [IntKind.wrap_u64]; omega
    go_wp2_with (first
      | ((with_reducible refine ls_skip ?_ ?_); (exact rfl); (try simp only [Act.put, List.setIfInBounds_toArray, List.set_cons_succ, List.set_cons_zero]))
      | ((with_reducible refine ck_alloc ?_); refine ls_alloc inferInstance fun _ _ => ?_)
      | ((with_reducible refine ck_load ?_); first | refine ls_load rfl inferInstance inferInstance ?_ | refine ls_cell rfl inferInstance inferInstance ?_)
      | ((with_reducible refine ck_store ?_); refine ls_store rfl rfl inferInstance inferInstance inferInstance fun _ => ?_)
      | ((with_reducible refine ck_build (t := 39) (xs := #[(0, _), (1, _)]) ?_); refine ls_I rfl rfl ?_)
      | ((with_reducible refine ck_build (t := 37) (xs := #[(0, _)]) ?_); refine ls_W1 rfl HB ?_))
    exact bd_cell Try.results14 rfl inferInstance inferInstance ⟨rfl, KW.below _⟩
  · obtain ⟨m, rfl⟩ : ∃ m : Nat, z = (m : Int) := ⟨z.toNat, by omega⟩
    have hd : ng (m : Int) = false := decide_eq_false h
    have HB : Hid (m < B) := Lib.hid (by rw [B_eq]; omega)
    rw [hd, Int.natAbs_natCast]
    refine enter fun u => ?_
    go_enter Try.func14, Try.ntmps14
    go_wp2_with (first
      | ((with_reducible refine ls_skip ?_ ?_); (exact rfl); (try simp only [Act.put, List.setIfInBounds_toArray, List.set_cons_succ, List.set_cons_zero]))
      | ((with_reducible refine ck_alloc ?_); refine ls_alloc inferInstance fun _ _ => ?_)
      | ((with_reducible refine ck_load ?_); first | refine ls_load rfl inferInstance inferInstance ?_ | refine ls_cell rfl inferInstance inferInstance ?_)
      | ((with_reducible refine ck_store ?_); refine ls_store rfl rfl inferInstance inferInstance inferInstance fun _ => ?_)
      | ((with_reducible refine ck_build (t := 39) (xs := #[(1, _)]) ?_); refine ls_I1 rfl ?_)
      | ((with_reducible refine ck_build (t := 37) (xs := #[(0, _)]) ?_); refine ls_W1 rfl HB ?_))
    exact bd_cell Try.results14 rfl inferInstance inferInstance ⟨rfl, KW.below _⟩
set_option maxRecDepth 100000 in
set_option maxHeartbeats 6400000 in
theorem radd_fit (s : Bool) (a b : Nat) (ha : Hid (a < M)) (hb : Hid (b < M)) (hf : a + b < M) (w : World) : Calls Try.prog 29 #[iv s a, iv s b] w (Ret (fv (sg s a + sg s b)) w) := by
  have HDA := Lib.hid (fun w => digits32_any a ha w)
  have HDB := Lib.hid (fun w => digits32_any b hb w)
  rw [← sg_same, fv_fit (by rw [sg_abs]; exact hf)]
  have HF := Lib.hid (fun (d : Nat) (hd : d < M) w => rfix_any s d (Lib.hid hd) w)
  refine enter fun u => ?_
  go_enter Try.func29, Try.ntmps29
  go_wp2_with (first
    | ((with_reducible refine ls_skip ?_ ?_); (exact rfl); (try simp only [Act.put, List.setIfInBounds_toArray, List.set_cons_succ, List.set_cons_zero]))
    | ((with_reducible refine ck_box ?_); refine list_box rfl fun _ _ => ?_)
    | ((with_reducible refine ck_alloc ?_); refine ls_alloc inferInstance fun _ _ => ?_))
  try simp only [Act.put, List.setIfInBounds_toArray, List.set_cons_succ, List.set_cons_zero]
  refine region_mix [(true, 0), (true, 1), (true, 3), (true, 4), (false, 2), (false, 5), (false, 6), (false, 7)] _ (Sub.both (h := Sub.both (h := Sub.both (h := Sub.nil)))) (by kernel_rfl) (by kernel_rfl) (fun _ _ _ _ _ h => by first | (simp only [Exit.then, bodyPost, defers_put] at h ⊢; exact h) | (simp only [Exit.then, Exit.inBlock, bodyPost, defers_put] at h ⊢; exact h)) ?_
  intro u5 _
  simp only [picks, List.filterMap_cons, List.filterMap_nil, List.getElem?_cons_zero, List.getElem?_cons_succ, Option.map_some]
  refine mixg_value (v := _) (by rfl) (exec_mag rfl) ?_
  try simp only [Act.put, List.setIfInBounds_toArray, List.set_cons_succ, List.set_cons_zero]
  refine mixg_part (by rfl) rfl inferInstance inferInstance ?_
  try simp only [Act.put, List.setIfInBounds_toArray, List.set_cons_succ, List.set_cons_zero]
  refine mixg_value (v := _) (by rfl) (exec_mag rfl) ?_
  try simp only [Act.put, List.setIfInBounds_toArray, List.set_cons_succ, List.set_cons_zero]
  refine mixg_part (by rfl) rfl inferInstance inferInstance ?_
  try simp only [Act.put, List.setIfInBounds_toArray, List.set_cons_succ, List.set_cons_zero]
  refine mixg_enter (f := 45) (args := #[wv a]) (by rfl) (by go_simp) ?_
  refine (HDA.out _).mono ?_
  rintro e w1 ⟨v1, x, rfl, ⟨hx1, hx2, hx3⟩, o1, b1⟩
  obtain ⟨u6, rfl⟩ := u5.go b1
  refine ⟨v1, rfl, KW.weak (h := inferInstance) u6, ?_⟩
  try simp only [Act.put, List.setIfInBounds_toArray, List.set_cons_succ, List.set_cons_zero]
  refine mixg_enter (f := 45) (args := #[wv b]) (by rfl) (by go_simp) ?_
  refine (HDB.out _).mono ?_
  rintro e w2 ⟨v2, y, rfl, ⟨hy1, hy2, hy3⟩, o2, b2⟩
  have R1 := o1.rd.later b2 (Nat.le_refl _)
  have R2 := o2.rd
  obtain ⟨u7, rfl⟩ := u6.go b2
  refine ⟨v2, rfl, KW.weak (h := inferInstance) u7, ?_⟩
  clear o1 o2 b1 b2 HDA HDB
  try simp only [Act.put, List.setIfInBounds_toArray, List.set_cons_succ, List.set_cons_zero]
  refine mixg_then (v := v1) (by rfl) (by go_simp) (KW.weak (h := inferInstance) u7) ?_
  try simp only [Act.put, List.setIfInBounds_toArray, List.set_cons_succ, List.set_cons_zero]
  refine mixg_then (v := v2) (by rfl) (by go_simp) (KW.weak (h := inferInstance) u7) ?_
  try simp only [Act.put, List.setIfInBounds_toArray, List.set_cons_succ, List.set_cons_zero]
  refine mix_nil ?_
  go_wp2_with (first
    | ((with_reducible refine ls_skip ?_ ?_); (exact rfl); (try simp only [Act.put, List.setIfInBounds_toArray, List.set_cons_succ, List.set_cons_zero]))
    | ((with_reducible refine ck_load ?_); first | refine ls_load rfl inferInstance inferInstance ?_ | refine ls_cell rfl inferInstance inferInstance ?_))
  refine (plus_any v1 v2 x y _ R1 R2 hx1 hy1 (by omega) (by omega)).mono ?_
  rintro e w3 ⟨v3, z, rfl, ⟨hz1, hz2, hz3⟩, o3, b3⟩
  have R3 := o3.rd
  obtain ⟨u8, rfl⟩ := u7.go b3
  have FW := refWide_any v3 z _ R3 hz1 (by omega)
  rw [hz2, hx2, hy2] at FW
  clear o3 b3 R3 hz1 hz2 hz3 hx1 hx2 hx3 hy1 hy2 hy3 R1 R2
  rw [low_of hf, show fitB (a + b) = true from decide_eq_true hf] at FW
  have HF := Lib.hid (HF.out (a + b) hf)
  clear hf
  generalize a + b = d at *
  unfold nv at HF ⊢
  generalize sg s d = k at *
  go_wp2_with (fail)
  refine FW.mono ?_
  rintro e w4 ⟨rfl, b4⟩
  obtain ⟨u9, rfl⟩ := u8.go b4
  clear b4 FW
  go_wp2_with (first
    | ((with_reducible refine ls_skip ?_ ?_); (exact rfl); (try simp only [Act.put, List.setIfInBounds_toArray, List.set_cons_succ, List.set_cons_zero]))
    | ((with_reducible refine ck_alloc ?_); refine ls_alloc inferInstance fun _ _ => ?_)
    | ((with_reducible refine ck_load ?_); first | refine ls_load rfl inferInstance inferInstance ?_ | refine ls_cell rfl inferInstance inferInstance ?_)
    | ((with_reducible refine ck_store ?_); refine ls_store rfl rfl inferInstance inferInstance inferInstance fun _ => ?_)
    | ((with_reducible refine ck_build (t := 39) (xs := #[(0, _), (1, _)]) ?_); refine ls_I rfl rfl ?_)
    | (go_at_call 46; (with_reducible refine (HF.out _).mono ?_); rintro e w' ⟨rfl, hb'⟩; obtain ⟨_, rfl⟩ := KW.go _ hb'; clear hb'))
  exact bd_cell_tmp Try.results29 rfl rfl inferInstance inferInstance ⟨rfl, KW.below _⟩
set_option maxRecDepth 100000 in
set_option maxHeartbeats 6400000 in
theorem radd_big (s : Bool) (a b : Nat) (ha : Hid (a < M)) (hb : Hid (b < M)) (hf : ¬ a + b < M) (w : World) : Calls Try.prog 29 #[iv s a, iv s b] w (Ret (fv (sg s a + sg s b)) w) := by
  have HDA := Lib.hid (fun w => digits32_any a ha w)
  have HDB := Lib.hid (fun w => digits32_any b hb w)
  rw [← sg_same, fv_big (by rw [sg_abs]; exact hf)]
  have HF := Lib.hid (fun (d : Nat) (hd : d < M) w => rfix_any s d (Lib.hid hd) w)
  refine enter fun u => ?_
  go_enter Try.func29, Try.ntmps29
  go_wp2_with (first
    | ((with_reducible refine ls_skip ?_ ?_); (exact rfl); (try simp only [Act.put, List.setIfInBounds_toArray, List.set_cons_succ, List.set_cons_zero]))
    | ((with_reducible refine ck_box ?_); refine list_box rfl fun _ _ => ?_)
    | ((with_reducible refine ck_alloc ?_); refine ls_alloc inferInstance fun _ _ => ?_))
  try simp only [Act.put, List.setIfInBounds_toArray, List.set_cons_succ, List.set_cons_zero]
  refine region_mix [(true, 0), (true, 1), (true, 3), (true, 4), (false, 2), (false, 5), (false, 6), (false, 7)] _ (Sub.both (h := Sub.both (h := Sub.both (h := Sub.nil)))) (by kernel_rfl) (by kernel_rfl) (fun _ _ _ _ _ h => by first | (simp only [Exit.then, bodyPost, defers_put] at h ⊢; exact h) | (simp only [Exit.then, Exit.inBlock, bodyPost, defers_put] at h ⊢; exact h)) ?_
  intro u5 _
  simp only [picks, List.filterMap_cons, List.filterMap_nil, List.getElem?_cons_zero, List.getElem?_cons_succ, Option.map_some]
  refine mixg_value (v := _) (by rfl) (exec_mag rfl) ?_
  try simp only [Act.put, List.setIfInBounds_toArray, List.set_cons_succ, List.set_cons_zero]
  refine mixg_part (by rfl) rfl inferInstance inferInstance ?_
  try simp only [Act.put, List.setIfInBounds_toArray, List.set_cons_succ, List.set_cons_zero]
  refine mixg_value (v := _) (by rfl) (exec_mag rfl) ?_
  try simp only [Act.put, List.setIfInBounds_toArray, List.set_cons_succ, List.set_cons_zero]
  refine mixg_part (by rfl) rfl inferInstance inferInstance ?_
  try simp only [Act.put, List.setIfInBounds_toArray, List.set_cons_succ, List.set_cons_zero]
  refine mixg_enter (f := 45) (args := #[wv a]) (by rfl) (by go_simp) ?_
  refine (HDA.out _).mono ?_
  rintro e w1 ⟨v1, x, rfl, ⟨hx1, hx2, hx3⟩, o1, b1⟩
  obtain ⟨u6, rfl⟩ := u5.go b1
  refine ⟨v1, rfl, KW.weak (h := inferInstance) u6, ?_⟩
  try simp only [Act.put, List.setIfInBounds_toArray, List.set_cons_succ, List.set_cons_zero]
  refine mixg_enter (f := 45) (args := #[wv b]) (by rfl) (by go_simp) ?_
  refine (HDB.out _).mono ?_
  rintro e w2 ⟨v2, y, rfl, ⟨hy1, hy2, hy3⟩, o2, b2⟩
  have R1 := o1.rd.later b2 (Nat.le_refl _)
  have R2 := o2.rd
  obtain ⟨u7, rfl⟩ := u6.go b2
  refine ⟨v2, rfl, KW.weak (h := inferInstance) u7, ?_⟩
  clear o1 o2 b1 b2 HDA HDB
  try simp only [Act.put, List.setIfInBounds_toArray, List.set_cons_succ, List.set_cons_zero]
  refine mixg_then (v := v1) (by rfl) (by go_simp) (KW.weak (h := inferInstance) u7) ?_
  try simp only [Act.put, List.setIfInBounds_toArray, List.set_cons_succ, List.set_cons_zero]
  refine mixg_then (v := v2) (by rfl) (by go_simp) (KW.weak (h := inferInstance) u7) ?_
  try simp only [Act.put, List.setIfInBounds_toArray, List.set_cons_succ, List.set_cons_zero]
  refine mix_nil ?_
  go_wp2_with (first
    | ((with_reducible refine ls_skip ?_ ?_); (exact rfl); (try simp only [Act.put, List.setIfInBounds_toArray, List.set_cons_succ, List.set_cons_zero]))
    | ((with_reducible refine ck_load ?_); first | refine ls_load rfl inferInstance inferInstance ?_ | refine ls_cell rfl inferInstance inferInstance ?_))
  refine (plus_any v1 v2 x y _ R1 R2 hx1 hy1 (by omega) (by omega)).mono ?_
  rintro e w3 ⟨v3, z, rfl, ⟨hz1, hz2, hz3⟩, o3, b3⟩
  have R3 := o3.rd
  obtain ⟨u8, rfl⟩ := u7.go b3
  have FW := refWide_any v3 z _ R3 hz1 (by omega)
  rw [hz2, hx2, hy2] at FW
  clear o3 b3 R3 hz1 hz2 hz3 hx1 hx2 hx3 hy1 hy2 hy3 R1 R2
  rw [show fitB (a + b) = false from decide_eq_false hf] at FW
  clear hf HF
  generalize low (a + b) = d at *
  go_wp2_with (fail)
  refine FW.mono ?_
  rintro e w4 ⟨rfl, b4⟩
  obtain ⟨u9, rfl⟩ := u8.go b4
  clear b4 FW
  go_wp2_with (first
    | ((with_reducible refine ls_skip ?_ ?_); (exact rfl); (try simp only [Act.put, List.setIfInBounds_toArray, List.set_cons_succ, List.set_cons_zero]))
    | ((with_reducible refine ck_alloc ?_); refine ls_alloc inferInstance fun _ _ => ?_)
    | ((with_reducible refine ck_load ?_); first | refine ls_load rfl inferInstance inferInstance ?_ | refine ls_cell rfl inferInstance inferInstance ?_)
    | ((with_reducible refine ck_store ?_); refine ls_store rfl rfl inferInstance inferInstance inferInstance fun _ => ?_)
    | ((with_reducible refine ck_build (t := 39) (xs := #[]) ?_); refine ls_I0 ?_))
  exact bd_cell_tmp Try.results29 rfl rfl inferInstance inferInstance ⟨rfl, KW.below _⟩
set_option maxRecDepth 100000 in
set_option maxHeartbeats 6400000 in
theorem radd_lt (s t : Bool) (a b : Nat) (ha : Hid (a < M)) (hb : Hid (b < M)) (hst : s ≠ t) (hab : a < b) (w : World) : Calls Try.prog 29 #[iv s a, iv t b] w (Ret (fv (sg s a + sg t b)) w) := by
  have HDA := Lib.hid (fun w => digits32_any a ha w)
  have HDB := Lib.hid (fun w => digits32_any b hb w)
  rw [fv_fit (apart_lt ha.out hb.out hst)]
  have hd : b - a < M := by have := ha.out; have := hb.out; omega
  have HF := Lib.hid (fun w => rfix_any t (b - a) (Lib.hid hd) w)
  have hL : low (b - a) = b - a := low_of hd
  have hB : fitB (b - a) = true := decide_eq_true hd
  rw [show sg s a + sg t b = sg t (b - a) by rw [Int.add_comm, ← sg_apart (Ne.symm hst) (by omega : a ≤ b)]]
  clear hd
  refine enter fun u => ?_
  go_enter Try.func29, Try.ntmps29
  go_wp2_with (first
    | ((with_reducible refine ls_skip ?_ ?_); (exact rfl); (try simp only [Act.put, List.setIfInBounds_toArray, List.set_cons_succ, List.set_cons_zero]))
    | ((with_reducible refine ck_box ?_); refine list_box rfl fun _ _ => ?_)
    | ((with_reducible refine ck_alloc ?_); refine ls_alloc inferInstance fun _ _ => ?_))
  try simp only [Act.put, List.setIfInBounds_toArray, List.set_cons_succ, List.set_cons_zero]
  refine region_mix [(true, 0), (true, 1), (true, 3), (true, 4), (false, 2), (false, 5), (false, 6), (false, 7)] _ (Sub.both (h := Sub.both (h := Sub.both (h := Sub.nil)))) (by kernel_rfl) (by kernel_rfl) (fun _ _ _ _ _ h => by first | (simp only [Exit.then, bodyPost, defers_put] at h ⊢; exact h) | (simp only [Exit.then, Exit.inBlock, bodyPost, defers_put] at h ⊢; exact h)) ?_
  intro u5 _
  simp only [picks, List.filterMap_cons, List.filterMap_nil, List.getElem?_cons_zero, List.getElem?_cons_succ, Option.map_some]
  refine mixg_value (v := _) (by rfl) (exec_mag rfl) ?_
  try simp only [Act.put, List.setIfInBounds_toArray, List.set_cons_succ, List.set_cons_zero]
  refine mixg_part (by rfl) rfl inferInstance inferInstance ?_
  try simp only [Act.put, List.setIfInBounds_toArray, List.set_cons_succ, List.set_cons_zero]
  refine mixg_value (v := _) (by rfl) (exec_mag rfl) ?_
  try simp only [Act.put, List.setIfInBounds_toArray, List.set_cons_succ, List.set_cons_zero]
  refine mixg_part (by rfl) rfl inferInstance inferInstance ?_
  try simp only [Act.put, List.setIfInBounds_toArray, List.set_cons_succ, List.set_cons_zero]
  refine mixg_enter (f := 45) (args := #[wv a]) (by rfl) (by go_simp) ?_
  refine (HDA.out _).mono ?_
  rintro e w1 ⟨v1, x, rfl, ⟨hx1, hx2, hx3⟩, o1, b1⟩
  obtain ⟨u6, rfl⟩ := u5.go b1
  refine ⟨v1, rfl, KW.weak (h := inferInstance) u6, ?_⟩
  try simp only [Act.put, List.setIfInBounds_toArray, List.set_cons_succ, List.set_cons_zero]
  refine mixg_enter (f := 45) (args := #[wv b]) (by rfl) (by go_simp) ?_
  refine (HDB.out _).mono ?_
  rintro e w2 ⟨v2, y, rfl, ⟨hy1, hy2, hy3⟩, o2, b2⟩
  have R1 := o1.rd.later b2 (Nat.le_refl _)
  have R2 := o2.rd
  obtain ⟨u7, rfl⟩ := u6.go b2
  refine ⟨v2, rfl, KW.weak (h := inferInstance) u7, ?_⟩
  clear o1 o2 b1 b2 HDA HDB
  try simp only [Act.put, List.setIfInBounds_toArray, List.set_cons_succ, List.set_cons_zero]
  refine mixg_then (v := v1) (by rfl) (by go_simp) (KW.weak (h := inferInstance) u7) ?_
  try simp only [Act.put, List.setIfInBounds_toArray, List.set_cons_succ, List.set_cons_zero]
  refine mixg_then (v := v2) (by rfl) (by go_simp) (KW.weak (h := inferInstance) u7) ?_
  try simp only [Act.put, List.setIfInBounds_toArray, List.set_cons_succ, List.set_cons_zero]
  refine mix_nil ?_
  have FL := less_any v1 v2 x y u7.w R1 R2 hx1 hy1 (by omega) (by omega)
  rw [show lessB x y = true by unfold lessB; rw [hx2, hy2]; exact decide_eq_true hab] at FL
  cases s <;> cases t <;> first | exact absurd rfl hst | skip
  all_goals (
    go_wp2_with (first
      | ((with_reducible refine ls_skip ?_ ?_); (exact rfl); (try simp only [Act.put, List.setIfInBounds_toArray, List.set_cons_succ, List.set_cons_zero]))
      | ((with_reducible refine ck_load ?_); first | refine ls_load rfl inferInstance inferInstance ?_ | refine ls_cell rfl inferInstance inferInstance ?_))
    refine FL.mono ?_
    rintro e w' ⟨rfl, rfl⟩
    clear FL
    go_wp2_with (first
      | ((with_reducible refine ls_skip ?_ ?_); (exact rfl); (try simp only [Act.put, List.setIfInBounds_toArray, List.set_cons_succ, List.set_cons_zero]))
      | ((with_reducible refine ck_load ?_); first | refine ls_load rfl inferInstance inferInstance ?_ | refine ls_cell rfl inferInstance inferInstance ?_))
    refine (minus_any v2 v1 y x _ R2 R1 hy1 hx1 (Lib.hid (by rw [hx2, hy2]; omega)) (by omega) (by omega)).mono ?_
    rintro e w3 ⟨v3, z, rfl, ⟨hz1, hz2, hz3⟩, o3, b3⟩
    have R3 := o3.rd
    obtain ⟨u8, rfl⟩ := u7.go b3
    have FW := refWide_any v3 z _ R3 hz1 (by omega)
    rw [hz2, hx2, hy2, hL, hB] at FW
    clear o3 b3 R3 hz1 hz2 hz3 hx1 hx2 hx3 hy1 hy2 hy3 R1 R2 hL hB
    generalize b - a = d at *
    unfold nv at HF ⊢
    go_wp2_with (fail)
    refine FW.mono ?_
    rintro e w4 ⟨rfl, b4⟩
    obtain ⟨u9, rfl⟩ := u8.go b4
    clear b4 FW
    go_wp2_with (first
      | ((with_reducible refine ls_skip ?_ ?_); (exact rfl); (try simp only [Act.put, List.setIfInBounds_toArray, List.set_cons_succ, List.set_cons_zero]))
      | ((with_reducible refine ck_alloc ?_); refine ls_alloc inferInstance fun _ _ => ?_)
      | ((with_reducible refine ck_load ?_); first | refine ls_load rfl inferInstance inferInstance ?_ | refine ls_cell rfl inferInstance inferInstance ?_)
      | ((with_reducible refine ck_store ?_); refine ls_store rfl rfl inferInstance inferInstance inferInstance fun _ => ?_)
      | ((with_reducible refine ck_build (t := 39) (xs := #[(0, _), (1, _)]) ?_); refine ls_I rfl rfl ?_)
      | (go_at_call 46; (with_reducible refine (HF.out _).mono ?_); rintro e w' ⟨rfl, hb'⟩; obtain ⟨_, rfl⟩ := KW.go _ hb'; clear hb'))
    exact bd_cell_tmp Try.results29 rfl rfl inferInstance inferInstance ⟨rfl, KW.below _⟩)
set_option maxRecDepth 100000 in
set_option maxHeartbeats 6400000 in
theorem radd_ge (s t : Bool) (a b : Nat) (ha : Hid (a < M)) (hb : Hid (b < M)) (hst : s ≠ t) (hab : ¬ a < b) (w : World) : Calls Try.prog 29 #[iv s a, iv t b] w (Ret (fv (sg s a + sg t b)) w) := by
  have HDA := Lib.hid (fun w => digits32_any a ha w)
  have HDB := Lib.hid (fun w => digits32_any b hb w)
  rw [fv_fit (apart_lt ha.out hb.out hst)]
  have hd : a - b < M := by have := ha.out; have := hb.out; omega
  have HF := Lib.hid (fun w => rfix_any s (a - b) (Lib.hid hd) w)
  have hL : low (a - b) = a - b := low_of hd
  have hB : fitB (a - b) = true := decide_eq_true hd
  rw [show sg s a + sg t b = sg s (a - b) by rw [← sg_apart hst (by omega : b ≤ a)]]
  clear hd
  refine enter fun u => ?_
  go_enter Try.func29, Try.ntmps29
  go_wp2_with (first
    | ((with_reducible refine ls_skip ?_ ?_); (exact rfl); (try simp only [Act.put, List.setIfInBounds_toArray, List.set_cons_succ, List.set_cons_zero]))
    | ((with_reducible refine ck_box ?_); refine list_box rfl fun _ _ => ?_)
    | ((with_reducible refine ck_alloc ?_); refine ls_alloc inferInstance fun _ _ => ?_))
  try simp only [Act.put, List.setIfInBounds_toArray, List.set_cons_succ, List.set_cons_zero]
  refine region_mix [(true, 0), (true, 1), (true, 3), (true, 4), (false, 2), (false, 5), (false, 6), (false, 7)] _ (Sub.both (h := Sub.both (h := Sub.both (h := Sub.nil)))) (by kernel_rfl) (by kernel_rfl) (fun _ _ _ _ _ h => by first | (simp only [Exit.then, bodyPost, defers_put] at h ⊢; exact h) | (simp only [Exit.then, Exit.inBlock, bodyPost, defers_put] at h ⊢; exact h)) ?_
  intro u5 _
  simp only [picks, List.filterMap_cons, List.filterMap_nil, List.getElem?_cons_zero, List.getElem?_cons_succ, Option.map_some]
  refine mixg_value (v := _) (by rfl) (exec_mag rfl) ?_
  try simp only [Act.put, List.setIfInBounds_toArray, List.set_cons_succ, List.set_cons_zero]
  refine mixg_part (by rfl) rfl inferInstance inferInstance ?_
  try simp only [Act.put, List.setIfInBounds_toArray, List.set_cons_succ, List.set_cons_zero]
  refine mixg_value (v := _) (by rfl) (exec_mag rfl) ?_
  try simp only [Act.put, List.setIfInBounds_toArray, List.set_cons_succ, List.set_cons_zero]
  refine mixg_part (by rfl) rfl inferInstance inferInstance ?_
  try simp only [Act.put, List.setIfInBounds_toArray, List.set_cons_succ, List.set_cons_zero]
  refine mixg_enter (f := 45) (args := #[wv a]) (by rfl) (by go_simp) ?_
  refine (HDA.out _).mono ?_
  rintro e w1 ⟨v1, x, rfl, ⟨hx1, hx2, hx3⟩, o1, b1⟩
  obtain ⟨u6, rfl⟩ := u5.go b1
  refine ⟨v1, rfl, KW.weak (h := inferInstance) u6, ?_⟩
  try simp only [Act.put, List.setIfInBounds_toArray, List.set_cons_succ, List.set_cons_zero]
  refine mixg_enter (f := 45) (args := #[wv b]) (by rfl) (by go_simp) ?_
  refine (HDB.out _).mono ?_
  rintro e w2 ⟨v2, y, rfl, ⟨hy1, hy2, hy3⟩, o2, b2⟩
  have R1 := o1.rd.later b2 (Nat.le_refl _)
  have R2 := o2.rd
  obtain ⟨u7, rfl⟩ := u6.go b2
  refine ⟨v2, rfl, KW.weak (h := inferInstance) u7, ?_⟩
  clear o1 o2 b1 b2 HDA HDB
  try simp only [Act.put, List.setIfInBounds_toArray, List.set_cons_succ, List.set_cons_zero]
  refine mixg_then (v := v1) (by rfl) (by go_simp) (KW.weak (h := inferInstance) u7) ?_
  try simp only [Act.put, List.setIfInBounds_toArray, List.set_cons_succ, List.set_cons_zero]
  refine mixg_then (v := v2) (by rfl) (by go_simp) (KW.weak (h := inferInstance) u7) ?_
  try simp only [Act.put, List.setIfInBounds_toArray, List.set_cons_succ, List.set_cons_zero]
  refine mix_nil ?_
  have FL := less_any v1 v2 x y u7.w R1 R2 hx1 hy1 (by omega) (by omega)
  rw [show lessB x y = false by unfold lessB; rw [hx2, hy2]; exact decide_eq_false hab] at FL
  cases s <;> cases t <;> first | exact absurd rfl hst | skip
  all_goals (
    go_wp2_with (first
      | ((with_reducible refine ls_skip ?_ ?_); (exact rfl); (try simp only [Act.put, List.setIfInBounds_toArray, List.set_cons_succ, List.set_cons_zero]))
      | ((with_reducible refine ck_load ?_); first | refine ls_load rfl inferInstance inferInstance ?_ | refine ls_cell rfl inferInstance inferInstance ?_))
    refine FL.mono ?_
    rintro e w' ⟨rfl, rfl⟩
    clear FL
    go_wp2_with (first
      | ((with_reducible refine ls_skip ?_ ?_); (exact rfl); (try simp only [Act.put, List.setIfInBounds_toArray, List.set_cons_succ, List.set_cons_zero]))
      | ((with_reducible refine ck_load ?_); first | refine ls_load rfl inferInstance inferInstance ?_ | refine ls_cell rfl inferInstance inferInstance ?_))
    refine (minus_any v1 v2 x y _ R1 R2 hx1 hy1 (Lib.hid (by rw [hx2, hy2]; omega)) (by omega) (by omega)).mono ?_
    rintro e w3 ⟨v3, z, rfl, ⟨hz1, hz2, hz3⟩, o3, b3⟩
    have R3 := o3.rd
    obtain ⟨u8, rfl⟩ := u7.go b3
    have FW := refWide_any v3 z _ R3 hz1 (by omega)
    rw [hz2, hx2, hy2, hL, hB] at FW
    clear o3 b3 R3 hz1 hz2 hz3 hx1 hx2 hx3 hy1 hy2 hy3 R1 R2 hL hB
    generalize a - b = d at *
    unfold nv at HF ⊢
    go_wp2_with (fail)
    refine FW.mono ?_
    rintro e w4 ⟨rfl, b4⟩
    obtain ⟨u9, rfl⟩ := u8.go b4
    clear b4 FW
    go_wp2_with (first
      | ((with_reducible refine ls_skip ?_ ?_); (exact rfl); (try simp only [Act.put, List.setIfInBounds_toArray, List.set_cons_succ, List.set_cons_zero]))
      | ((with_reducible refine ck_alloc ?_); refine ls_alloc inferInstance fun _ _ => ?_)
      | ((with_reducible refine ck_load ?_); first | refine ls_load rfl inferInstance inferInstance ?_ | refine ls_cell rfl inferInstance inferInstance ?_)
      | ((with_reducible refine ck_store ?_); refine ls_store rfl rfl inferInstance inferInstance inferInstance fun _ => ?_)
      | ((with_reducible refine ck_build (t := 39) (xs := #[(0, _), (1, _)]) ?_); refine ls_I rfl rfl ?_)
      | (go_at_call 46; (with_reducible refine (HF.out _).mono ?_); rintro e w' ⟨rfl, hb'⟩; obtain ⟨_, rfl⟩ := KW.go _ hb'; clear hb'))
    exact bd_cell_tmp Try.results29 rfl rfl inferInstance inferInstance ⟨rfl, KW.below _⟩)
theorem radd_any (s t : Bool) (a b : Nat) (ha : Hid (a < M)) (hb : Hid (b < M)) (w : World) : Calls Try.prog 29 #[iv s a, iv t b] w (Ret (fv (sg s a + sg t b)) w) := by
  by_cases h : s = t
  · subst h
    by_cases hf : a + b < M
    · exact radd_fit s a b ha hb hf w
    · exact radd_big s a b ha hb hf w
  · by_cases hab : a < b
    · exact radd_lt s t a b ha hb h hab w
    · exact radd_ge s t a b ha hb h hab w
end Go.Proofs.Ytoahcjjndjdljaa.SignW

/- The document's own answers of layer 5: product, order, digits: contracts over the translation. -/
namespace Go.Proofs.Ytoahcjjndjdljaa.SignW
open Go.RowKit
open DigM WideM WideV KM DigW WideW QuotW QuotM DecM FmtW SignM
open Go.Lib (decDigits nDigits)
set_option maxRecDepth 100000 in
set_option maxHeartbeats 12800000 in
theorem rmul_fit (s t : Bool) (a b : Nat) (ha : Hid (a < M)) (hb : Hid (b < M)) (hf : a * b < M) (w : World) : Calls Try.prog 27 #[iv s a, iv t b] w (Ret (fv (sg s a * sg t b)) w) := by
  have HDA := Lib.hid (fun w => digits32_any a ha w)
  have HDB := Lib.hid (fun w => digits32_any b hb w)
  obtain ⟨r, hr⟩ : ∃ r, r = (s != t) := ⟨_, rfl⟩
  rw [← sg_mul, fv_fit (by rw [sg_abs]; exact hf), ← hr]
  have hL : low (a * b) = a * b := low_of hf
  have hBt : fitB (a * b) = true := decide_eq_true hf
  have HF := Lib.hid (fun w => rfix_any r (a * b) (Lib.hid hf) w)
  obtain ⟨q, hq⟩ : ∃ q, a * b = q := ⟨_, rfl⟩
  rw [hq] at HF ⊢
  rw [hq] at hL hBt
  have hx0 := hq
  clear hf
  refine enter fun u => ?_
  go_enter Try.func27, Try.ntmps27
  go_wp2_with (first
    | ((with_reducible refine ls_skip ?_ ?_); (exact rfl); (try simp only [Act.put, List.setIfInBounds_toArray, List.set_cons_succ, List.set_cons_zero]))
    | ((with_reducible refine ck_box ?_); refine list_box rfl fun _ _ => ?_)
    | ((with_reducible refine ck_alloc ?_); refine ls_alloc inferInstance fun _ _ => ?_))
  try simp only [Act.put, List.setIfInBounds_toArray, List.set_cons_succ, List.set_cons_zero]
  refine region_float [(true, 0), (true, 1), (true, 3), (true, 4), (false, 2), (false, 5), (false, 6), (false, 7), (true, 8), (true, 9), (true, 10)] 11 [(false, 12), (false, 13)] _ _ (Sub.both (h := Sub.both (h := Sub.both (h := Sub.nil)))) (by kernel_rfl) rfl (by kernel_rfl) (fun _ _ _ _ _ h => by first | (simp only [Exit.then, bodyPost, defers_put] at h ⊢; exact h) | (simp only [Exit.then, Exit.inBlock, bodyPost, defers_put] at h ⊢; exact h)) ?_
  intro u5 _
  simp only [picks, List.filterMap_cons, List.filterMap_nil, List.getElem?_cons_zero, List.getElem?_cons_succ, Option.map_some]
  refine fl_value (v := _) (by rfl) (exec_mag rfl) ?_
  try simp only [Act.put, List.setIfInBounds_toArray, List.set_cons_succ, List.set_cons_zero]
  refine fl_load (by rfl) rfl inferInstance inferInstance ?_
  try simp only [Act.put, List.setIfInBounds_toArray, List.set_cons_succ, List.set_cons_zero]
  refine fl_value (v := _) (by rfl) (exec_mag rfl) ?_
  try simp only [Act.put, List.setIfInBounds_toArray, List.set_cons_succ, List.set_cons_zero]
  refine fl_load (by rfl) rfl inferInstance inferInstance ?_
  try simp only [Act.put, List.setIfInBounds_toArray, List.set_cons_succ, List.set_cons_zero]
  refine fl_both (by rfl) (by rfl) ?_ ?_
  · refine wp_allocs inferInstance inferInstance fun g8 u5 b8 => ?_
    clear b8
    try simp only [Act.put, List.setIfInBounds_toArray, List.set_cons_succ, List.set_cons_zero]
    simp only [List.cons_append, List.nil_append]
    refine mx_only (by rfl) ?_
    refine wp_enters (f := 45) (args := #[wv a]) (by go_simp) ?_
    refine (HDA.out _).mono ?_
    rintro e w' ⟨v1, x, rfl, ⟨hx1, hx2, hx3⟩, o1, b1⟩
    have R1 := o1.rd
    obtain ⟨u5, rfl⟩ := u5.go b1
    refine ⟨v1, rfl, KW.weak (h := inferInstance) u5, ?_⟩
    clear o1 b1
    try simp only [Act.put, List.setIfInBounds_toArray, List.set_cons_succ, List.set_cons_zero]
    refine mx_only (by rfl) ?_
    refine wp_enters (f := 45) (args := #[wv b]) (by go_simp) ?_
    refine (HDB.out _).mono ?_
    rintro e w' ⟨v2, y, rfl, ⟨hy1, hy2, hy3⟩, o2, b2⟩
    have R1 := R1.later b2 (Nat.le_refl _)
    have R2 := o2.rd
    obtain ⟨u5, rfl⟩ := u5.go b2
    refine ⟨v2, rfl, KW.weak (h := inferInstance) u5, ?_⟩
    clear o2 b2
    try simp only [Act.put, List.setIfInBounds_toArray, List.set_cons_succ, List.set_cons_zero]
    refine mx_only (by rfl) ?_
    refine wp_enters (f := 44) (args := #[v1, v2]) (by go_simp) ?_
    refine (times_any v1 v2 x y _ R1 R2 hx1 hy1 (by omega) (by omega)).mono ?_
    rintro e w' ⟨v3, z, rfl, ⟨hz1, hz2, hz3⟩, o3, b3⟩
    have R3 := o3.rd
    obtain ⟨u5, rfl⟩ := u5.go b3
    refine ⟨v3, rfl, KW.weak (h := inferInstance) u5, ?_⟩
    clear o3 b3
    try simp only [Act.put, List.setIfInBounds_toArray, List.set_cons_succ, List.set_cons_zero]
    refine mx_only (by rfl) ?_
    refine wp_enters (f := 43) (args := #[v3]) (by go_simp) ?_
    have FW := refWide_any v3 z _ R3 hz1 (by omega)
    rw [hz2, hx2, hy2, hx0, hL, hBt] at FW
    refine FW.mono ?_
    rintro e w' ⟨rfl, b4⟩
    obtain ⟨u5, rfl⟩ := u5.go b4
    refine ⟨_, rfl, KW.weak (h := inferInstance) u5, ?_⟩
    clear b4 FW R3 hz1 hz2 hz3 hx1 hx2 hx3 hy1 hy2 hy3
    try simp only [Act.put, List.setIfInBounds_toArray, List.set_cons_succ, List.set_cons_zero]
    refine mixg_value (v := .tuple #[wv q, .bool true]) (by rfl) (by intro w; go_simp) ?_
    try simp only [Act.put, List.setIfInBounds_toArray, List.set_cons_succ, List.set_cons_zero]
    refine mixg_value (v := wv q) (by rfl) (by intro w; go_simp) ?_
    try simp only [Act.put, List.setIfInBounds_toArray, List.set_cons_succ, List.set_cons_zero]
    refine mixg_value (v := .bool true) (by rfl) (by intro w; go_simp) ?_
    try simp only [Act.put, List.setIfInBounds_toArray, List.set_cons_succ, List.set_cons_zero]
    refine mixg_store (by rfl) rfl rfl inferInstance inferInstance inferInstance inferInstance fun u5 => ?_
    refine mixg_then (v := .bool true) (by rfl) (by go_simp) (KW.weak (h := inferInstance) u5) ?_
    try simp only [Act.put, List.setIfInBounds_toArray, List.set_cons_succ, List.set_cons_zero]
    refine mix_nil ?_
    cases s <;> cases t
    all_goals (
      first | (obtain rfl : r = true := hr) | (obtain rfl : r = false := hr)
      go_wp2_with (first
        | ((with_reducible refine ls_skip ?_ ?_); (exact rfl); (try simp only [Act.put, List.setIfInBounds_toArray, List.set_cons_succ, List.set_cons_zero]))
        | ((with_reducible refine ck_load ?_); first | refine ls_load rfl inferInstance inferInstance ?_ | refine ls_cell rfl inferInstance inferInstance ?_)
        | ((with_reducible refine ck_store ?_); refine ls_store rfl rfl inferInstance inferInstance inferInstance fun _ => ?_)
        | ((with_reducible refine ck_build (t := 39) (xs := #[(0, _), (1, _)]) ?_); refine ls_I rfl rfl ?_)
        | (go_at_call 46; (with_reducible refine (HF.out _).mono ?_); rintro e w' ⟨rfl, hb'⟩; obtain ⟨_, rfl⟩ := KW.go _ hb'; clear hb'))
      exact bd_cell_tmp Try.results27 rfl rfl inferInstance inferInstance ⟨rfl, KW.below _⟩)
  · refine wp_enters (f := 45) (args := #[wv a]) (by go_simp) ?_
    refine (HDA.out _).mono ?_
    rintro e w' ⟨v1, x, rfl, ⟨hx1, hx2, hx3⟩, o1, b1⟩
    have R1 := o1.rd
    obtain ⟨u5, rfl⟩ := u5.go b1
    refine ⟨v1, rfl, KW.weak (h := inferInstance) u5, ?_⟩
    clear o1 b1
    try simp only [Act.put, List.setIfInBounds_toArray, List.set_cons_succ, List.set_cons_zero]
    refine fl_both (by rfl) (by rfl) ?_ ?_
    · refine wp_allocs inferInstance inferInstance fun g8 u5 b8 => ?_
      have R1 := R1.later b8 (Nat.le_refl _)
      clear b8
      try simp only [Act.put, List.setIfInBounds_toArray, List.set_cons_succ, List.set_cons_zero]
      simp only [List.cons_append, List.nil_append]
      refine mx_only (by rfl) ?_
      refine wp_enters (f := 45) (args := #[wv b]) (by go_simp) ?_
      refine (HDB.out _).mono ?_
      rintro e w' ⟨v2, y, rfl, ⟨hy1, hy2, hy3⟩, o2, b2⟩
      have R1 := R1.later b2 (Nat.le_refl _)
      have R2 := o2.rd
      obtain ⟨u5, rfl⟩ := u5.go b2
      refine ⟨v2, rfl, KW.weak (h := inferInstance) u5, ?_⟩
      clear o2 b2
      try simp only [Act.put, List.setIfInBounds_toArray, List.set_cons_succ, List.set_cons_zero]
      refine mx_only (by rfl) ?_
      refine wp_enters (f := 44) (args := #[v1, v2]) (by go_simp) ?_
      refine (times_any v1 v2 x y _ R1 R2 hx1 hy1 (by omega) (by omega)).mono ?_
      rintro e w' ⟨v3, z, rfl, ⟨hz1, hz2, hz3⟩, o3, b3⟩
      have R3 := o3.rd
      obtain ⟨u5, rfl⟩ := u5.go b3
      refine ⟨v3, rfl, KW.weak (h := inferInstance) u5, ?_⟩
      clear o3 b3
      try simp only [Act.put, List.setIfInBounds_toArray, List.set_cons_succ, List.set_cons_zero]
      refine mx_only (by rfl) ?_
      refine wp_enters (f := 43) (args := #[v3]) (by go_simp) ?_
      have FW := refWide_any v3 z _ R3 hz1 (by omega)
      rw [hz2, hx2, hy2, hx0, hL, hBt] at FW
      refine FW.mono ?_
      rintro e w' ⟨rfl, b4⟩
      obtain ⟨u5, rfl⟩ := u5.go b4
      refine ⟨_, rfl, KW.weak (h := inferInstance) u5, ?_⟩
      clear b4 FW R3 hz1 hz2 hz3 hx1 hx2 hx3 hy1 hy2 hy3
      try simp only [Act.put, List.setIfInBounds_toArray, List.set_cons_succ, List.set_cons_zero]
      refine mixg_value (v := .tuple #[wv q, .bool true]) (by rfl) (by intro w; go_simp) ?_
      try simp only [Act.put, List.setIfInBounds_toArray, List.set_cons_succ, List.set_cons_zero]
      refine mixg_value (v := wv q) (by rfl) (by intro w; go_simp) ?_
      try simp only [Act.put, List.setIfInBounds_toArray, List.set_cons_succ, List.set_cons_zero]
      refine mixg_value (v := .bool true) (by rfl) (by intro w; go_simp) ?_
      try simp only [Act.put, List.setIfInBounds_toArray, List.set_cons_succ, List.set_cons_zero]
      refine mixg_store (by rfl) rfl rfl inferInstance inferInstance inferInstance inferInstance fun u5 => ?_
      refine mixg_then (v := .bool true) (by rfl) (by go_simp) (KW.weak (h := inferInstance) u5) ?_
      try simp only [Act.put, List.setIfInBounds_toArray, List.set_cons_succ, List.set_cons_zero]
      refine mix_nil ?_
      cases s <;> cases t
      all_goals (
        first | (obtain rfl : r = true := hr) | (obtain rfl : r = false := hr)
        go_wp2_with (first
          | ((with_reducible refine ls_skip ?_ ?_); (exact rfl); (try simp only [Act.put, List.setIfInBounds_toArray, List.set_cons_succ, List.set_cons_zero]))
          | ((with_reducible refine ck_load ?_); first | refine ls_load rfl inferInstance inferInstance ?_ | refine ls_cell rfl inferInstance inferInstance ?_)
          | ((with_reducible refine ck_store ?_); refine ls_store rfl rfl inferInstance inferInstance inferInstance fun _ => ?_)
          | ((with_reducible refine ck_build (t := 39) (xs := #[(0, _), (1, _)]) ?_); refine ls_I rfl rfl ?_)
          | (go_at_call 46; (with_reducible refine (HF.out _).mono ?_); rintro e w' ⟨rfl, hb'⟩; obtain ⟨_, rfl⟩ := KW.go _ hb'; clear hb'))
        exact bd_cell_tmp Try.results27 rfl rfl inferInstance inferInstance ⟨rfl, KW.below _⟩)
    · refine wp_enters (f := 45) (args := #[wv b]) (by go_simp) ?_
      refine (HDB.out _).mono ?_
      rintro e w' ⟨v2, y, rfl, ⟨hy1, hy2, hy3⟩, o2, b2⟩
      have R1 := R1.later b2 (Nat.le_refl _)
      have R2 := o2.rd
      obtain ⟨u5, rfl⟩ := u5.go b2
      refine ⟨v2, rfl, KW.weak (h := inferInstance) u5, ?_⟩
      clear o2 b2
      try simp only [Act.put, List.setIfInBounds_toArray, List.set_cons_succ, List.set_cons_zero]
      refine fl_both (by rfl) (by rfl) ?_ ?_
      · refine wp_allocs inferInstance inferInstance fun g8 u5 b8 => ?_
        have R1 := R1.later b8 (Nat.le_refl _)
        have R2 := R2.later b8 (Nat.le_refl _)
        clear b8
        try simp only [Act.put, List.setIfInBounds_toArray, List.set_cons_succ, List.set_cons_zero]
        simp only [List.cons_append, List.nil_append]
        refine mx_only (by rfl) ?_
        refine wp_enters (f := 44) (args := #[v1, v2]) (by go_simp) ?_
        refine (times_any v1 v2 x y _ R1 R2 hx1 hy1 (by omega) (by omega)).mono ?_
        rintro e w' ⟨v3, z, rfl, ⟨hz1, hz2, hz3⟩, o3, b3⟩
        have R3 := o3.rd
        obtain ⟨u5, rfl⟩ := u5.go b3
        refine ⟨v3, rfl, KW.weak (h := inferInstance) u5, ?_⟩
        clear o3 b3
        try simp only [Act.put, List.setIfInBounds_toArray, List.set_cons_succ, List.set_cons_zero]
        refine mx_only (by rfl) ?_
        refine wp_enters (f := 43) (args := #[v3]) (by go_simp) ?_
        have FW := refWide_any v3 z _ R3 hz1 (by omega)
        rw [hz2, hx2, hy2, hx0, hL, hBt] at FW
        refine FW.mono ?_
        rintro e w' ⟨rfl, b4⟩
        obtain ⟨u5, rfl⟩ := u5.go b4
        refine ⟨_, rfl, KW.weak (h := inferInstance) u5, ?_⟩
        clear b4 FW R3 hz1 hz2 hz3 hx1 hx2 hx3 hy1 hy2 hy3
        try simp only [Act.put, List.setIfInBounds_toArray, List.set_cons_succ, List.set_cons_zero]
        refine mixg_value (v := .tuple #[wv q, .bool true]) (by rfl) (by intro w; go_simp) ?_
        try simp only [Act.put, List.setIfInBounds_toArray, List.set_cons_succ, List.set_cons_zero]
        refine mixg_value (v := wv q) (by rfl) (by intro w; go_simp) ?_
        try simp only [Act.put, List.setIfInBounds_toArray, List.set_cons_succ, List.set_cons_zero]
        refine mixg_value (v := .bool true) (by rfl) (by intro w; go_simp) ?_
        try simp only [Act.put, List.setIfInBounds_toArray, List.set_cons_succ, List.set_cons_zero]
        refine mixg_store (by rfl) rfl rfl inferInstance inferInstance inferInstance inferInstance fun u5 => ?_
        refine mixg_then (v := .bool true) (by rfl) (by go_simp) (KW.weak (h := inferInstance) u5) ?_
        try simp only [Act.put, List.setIfInBounds_toArray, List.set_cons_succ, List.set_cons_zero]
        refine mix_nil ?_
        cases s <;> cases t
        all_goals (
          first | (obtain rfl : r = true := hr) | (obtain rfl : r = false := hr)
          go_wp2_with (first
            | ((with_reducible refine ls_skip ?_ ?_); (exact rfl); (try simp only [Act.put, List.setIfInBounds_toArray, List.set_cons_succ, List.set_cons_zero]))
            | ((with_reducible refine ck_load ?_); first | refine ls_load rfl inferInstance inferInstance ?_ | refine ls_cell rfl inferInstance inferInstance ?_)
            | ((with_reducible refine ck_store ?_); refine ls_store rfl rfl inferInstance inferInstance inferInstance fun _ => ?_)
            | ((with_reducible refine ck_build (t := 39) (xs := #[(0, _), (1, _)]) ?_); refine ls_I rfl rfl ?_)
            | (go_at_call 46; (with_reducible refine (HF.out _).mono ?_); rintro e w' ⟨rfl, hb'⟩; obtain ⟨_, rfl⟩ := KW.go _ hb'; clear hb'))
          exact bd_cell_tmp Try.results27 rfl rfl inferInstance inferInstance ⟨rfl, KW.below _⟩)
      · refine wp_enters (f := 44) (args := #[v1, v2]) (by go_simp) ?_
        refine (times_any v1 v2 x y _ R1 R2 hx1 hy1 (by omega) (by omega)).mono ?_
        rintro e w' ⟨v3, z, rfl, ⟨hz1, hz2, hz3⟩, o3, b3⟩
        have R3 := o3.rd
        obtain ⟨u5, rfl⟩ := u5.go b3
        refine ⟨v3, rfl, KW.weak (h := inferInstance) u5, ?_⟩
        clear o3 b3
        try simp only [Act.put, List.setIfInBounds_toArray, List.set_cons_succ, List.set_cons_zero]
        refine fl_both (by rfl) (by rfl) ?_ ?_
        · refine wp_allocs inferInstance inferInstance fun g8 u5 b8 => ?_
          have R3 := R3.later b8 (Nat.le_refl _)
          clear b8
          try simp only [Act.put, List.setIfInBounds_toArray, List.set_cons_succ, List.set_cons_zero]
          simp only [List.cons_append, List.nil_append]
          refine mx_only (by rfl) ?_
          refine wp_enters (f := 43) (args := #[v3]) (by go_simp) ?_
          have FW := refWide_any v3 z _ R3 hz1 (by omega)
          rw [hz2, hx2, hy2, hx0, hL, hBt] at FW
          refine FW.mono ?_
          rintro e w' ⟨rfl, b4⟩
          obtain ⟨u5, rfl⟩ := u5.go b4
          refine ⟨_, rfl, KW.weak (h := inferInstance) u5, ?_⟩
          clear b4 FW R3 hz1 hz2 hz3 hx1 hx2 hx3 hy1 hy2 hy3
          try simp only [Act.put, List.setIfInBounds_toArray, List.set_cons_succ, List.set_cons_zero]
          refine mixg_value (v := .tuple #[wv q, .bool true]) (by rfl) (by intro w; go_simp) ?_
          try simp only [Act.put, List.setIfInBounds_toArray, List.set_cons_succ, List.set_cons_zero]
          refine mixg_value (v := wv q) (by rfl) (by intro w; go_simp) ?_
          try simp only [Act.put, List.setIfInBounds_toArray, List.set_cons_succ, List.set_cons_zero]
          refine mixg_value (v := .bool true) (by rfl) (by intro w; go_simp) ?_
          try simp only [Act.put, List.setIfInBounds_toArray, List.set_cons_succ, List.set_cons_zero]
          refine mixg_store (by rfl) rfl rfl inferInstance inferInstance inferInstance inferInstance fun u5 => ?_
          refine mixg_then (v := .bool true) (by rfl) (by go_simp) (KW.weak (h := inferInstance) u5) ?_
          try simp only [Act.put, List.setIfInBounds_toArray, List.set_cons_succ, List.set_cons_zero]
          refine mix_nil ?_
          cases s <;> cases t
          all_goals (
            first | (obtain rfl : r = true := hr) | (obtain rfl : r = false := hr)
            go_wp2_with (first
              | ((with_reducible refine ls_skip ?_ ?_); (exact rfl); (try simp only [Act.put, List.setIfInBounds_toArray, List.set_cons_succ, List.set_cons_zero]))
              | ((with_reducible refine ck_load ?_); first | refine ls_load rfl inferInstance inferInstance ?_ | refine ls_cell rfl inferInstance inferInstance ?_)
              | ((with_reducible refine ck_store ?_); refine ls_store rfl rfl inferInstance inferInstance inferInstance fun _ => ?_)
              | ((with_reducible refine ck_build (t := 39) (xs := #[(0, _), (1, _)]) ?_); refine ls_I rfl rfl ?_)
              | (go_at_call 46; (with_reducible refine (HF.out _).mono ?_); rintro e w' ⟨rfl, hb'⟩; obtain ⟨_, rfl⟩ := KW.go _ hb'; clear hb'))
            exact bd_cell_tmp Try.results27 rfl rfl inferInstance inferInstance ⟨rfl, KW.below _⟩)
        · refine wp_enters (f := 43) (args := #[v3]) (by go_simp) ?_
          have FW := refWide_any v3 z _ R3 hz1 (by omega)
          rw [hz2, hx2, hy2, hx0, hL, hBt] at FW
          refine FW.mono ?_
          rintro e w' ⟨rfl, b4⟩
          obtain ⟨u5, rfl⟩ := u5.go b4
          refine ⟨_, rfl, KW.weak (h := inferInstance) u5, ?_⟩
          clear b4 FW R3 hz1 hz2 hz3 hx1 hx2 hx3 hy1 hy2 hy3
          try simp only [Act.put, List.setIfInBounds_toArray, List.set_cons_succ, List.set_cons_zero]
          refine fl_value (v := .tuple #[wv q, .bool true]) (by rfl) (by intro w; go_simp) ?_
          try simp only [Act.put, List.setIfInBounds_toArray, List.set_cons_succ, List.set_cons_zero]
          refine fl_value (v := wv q) (by rfl) (by intro w; go_simp) ?_
          try simp only [Act.put, List.setIfInBounds_toArray, List.set_cons_succ, List.set_cons_zero]
          refine fl_value (v := .bool true) (by rfl) (by intro w; go_simp) ?_
          try simp only [Act.put, List.setIfInBounds_toArray, List.set_cons_succ, List.set_cons_zero]
          refine fl_nil (by rfl) ?_
          refine wp_allocs inferInstance inferInstance fun g8 u5 b8 => ?_
          clear b8
          try simp only [Act.put, List.setIfInBounds_toArray, List.set_cons_succ, List.set_cons_zero]
          refine mixg_store (by rfl) rfl rfl inferInstance inferInstance inferInstance inferInstance fun u5 => ?_
          refine mixg_then (v := .bool true) (by rfl) (by go_simp) (KW.weak (h := inferInstance) u5) ?_
          try simp only [Act.put, List.setIfInBounds_toArray, List.set_cons_succ, List.set_cons_zero]
          refine mix_nil ?_
          cases s <;> cases t
          all_goals (
            first | (obtain rfl : r = true := hr) | (obtain rfl : r = false := hr)
            go_wp2_with (first
              | ((with_reducible refine ls_skip ?_ ?_); (exact rfl); (try simp only [Act.put, List.setIfInBounds_toArray, List.set_cons_succ, List.set_cons_zero]))
              | ((with_reducible refine ck_load ?_); first | refine ls_load rfl inferInstance inferInstance ?_ | refine ls_cell rfl inferInstance inferInstance ?_)
              | ((with_reducible refine ck_store ?_); refine ls_store rfl rfl inferInstance inferInstance inferInstance fun _ => ?_)
              | ((with_reducible refine ck_build (t := 39) (xs := #[(0, _), (1, _)]) ?_); refine ls_I rfl rfl ?_)
              | (go_at_call 46; (with_reducible refine (HF.out _).mono ?_); rintro e w' ⟨rfl, hb'⟩; obtain ⟨_, rfl⟩ := KW.go _ hb'; clear hb'))
            exact bd_cell_tmp Try.results27 rfl rfl inferInstance inferInstance ⟨rfl, KW.below _⟩)
set_option maxRecDepth 100000 in
set_option maxHeartbeats 12800000 in
theorem rmul_big (s t : Bool) (a b : Nat) (ha : Hid (a < M)) (hb : Hid (b < M)) (hf : ¬ a * b < M) (w : World) : Calls Try.prog 27 #[iv s a, iv t b] w (Ret (fv (sg s a * sg t b)) w) := by
  have HDA := Lib.hid (fun w => digits32_any a ha w)
  have HDB := Lib.hid (fun w => digits32_any b hb w)
  rw [← sg_mul, fv_big (by rw [sg_abs]; exact hf)]
  have hBt : fitB (a * b) = false := decide_eq_false hf
  obtain ⟨q, hL⟩ : ∃ q, low (a * b) = q := ⟨_, rfl⟩
  clear hf
  refine enter fun u => ?_
  go_enter Try.func27, Try.ntmps27
  go_wp2_with (first
    | ((with_reducible refine ls_skip ?_ ?_); (exact rfl); (try simp only [Act.put, List.setIfInBounds_toArray, List.set_cons_succ, List.set_cons_zero]))
    | ((with_reducible refine ck_box ?_); refine list_box rfl fun _ _ => ?_)
    | ((with_reducible refine ck_alloc ?_); refine ls_alloc inferInstance fun _ _ => ?_))
  try simp only [Act.put, List.setIfInBounds_toArray, List.set_cons_succ, List.set_cons_zero]
  refine region_float [(true, 0), (true, 1), (true, 3), (true, 4), (false, 2), (false, 5), (false, 6), (false, 7), (true, 8), (true, 9), (true, 10)] 11 [(false, 12), (false, 13)] _ _ (Sub.both (h := Sub.both (h := Sub.both (h := Sub.nil)))) (by kernel_rfl) rfl (by kernel_rfl) (fun _ _ _ _ _ h => by first | (simp only [Exit.then, bodyPost, defers_put] at h ⊢; exact h) | (simp only [Exit.then, Exit.inBlock, bodyPost, defers_put] at h ⊢; exact h)) ?_
  intro u5 _
  simp only [picks, List.filterMap_cons, List.filterMap_nil, List.getElem?_cons_zero, List.getElem?_cons_succ, Option.map_some]
  refine fl_value (v := _) (by rfl) (exec_mag rfl) ?_
  try simp only [Act.put, List.setIfInBounds_toArray, List.set_cons_succ, List.set_cons_zero]
  refine fl_load (by rfl) rfl inferInstance inferInstance ?_
  try simp only [Act.put, List.setIfInBounds_toArray, List.set_cons_succ, List.set_cons_zero]
  refine fl_value (v := _) (by rfl) (exec_mag rfl) ?_
  try simp only [Act.put, List.setIfInBounds_toArray, List.set_cons_succ, List.set_cons_zero]
  refine fl_load (by rfl) rfl inferInstance inferInstance ?_
  try simp only [Act.put, List.setIfInBounds_toArray, List.set_cons_succ, List.set_cons_zero]
  refine fl_both (by rfl) (by rfl) ?_ ?_
  · refine wp_allocs inferInstance inferInstance fun g8 u5 b8 => ?_
    clear b8
    try simp only [Act.put, List.setIfInBounds_toArray, List.set_cons_succ, List.set_cons_zero]
    simp only [List.cons_append, List.nil_append]
    refine mx_only (by rfl) ?_
    refine wp_enters (f := 45) (args := #[wv a]) (by go_simp) ?_
    refine (HDA.out _).mono ?_
    rintro e w' ⟨v1, x, rfl, ⟨hx1, hx2, hx3⟩, o1, b1⟩
    have R1 := o1.rd
    obtain ⟨u5, rfl⟩ := u5.go b1
    refine ⟨v1, rfl, KW.weak (h := inferInstance) u5, ?_⟩
    clear o1 b1
    try simp only [Act.put, List.setIfInBounds_toArray, List.set_cons_succ, List.set_cons_zero]
    refine mx_only (by rfl) ?_
    refine wp_enters (f := 45) (args := #[wv b]) (by go_simp) ?_
    refine (HDB.out _).mono ?_
    rintro e w' ⟨v2, y, rfl, ⟨hy1, hy2, hy3⟩, o2, b2⟩
    have R1 := R1.later b2 (Nat.le_refl _)
    have R2 := o2.rd
    obtain ⟨u5, rfl⟩ := u5.go b2
    refine ⟨v2, rfl, KW.weak (h := inferInstance) u5, ?_⟩
    clear o2 b2
    try simp only [Act.put, List.setIfInBounds_toArray, List.set_cons_succ, List.set_cons_zero]
    refine mx_only (by rfl) ?_
    refine wp_enters (f := 44) (args := #[v1, v2]) (by go_simp) ?_
    refine (times_any v1 v2 x y _ R1 R2 hx1 hy1 (by omega) (by omega)).mono ?_
    rintro e w' ⟨v3, z, rfl, ⟨hz1, hz2, hz3⟩, o3, b3⟩
    have R3 := o3.rd
    obtain ⟨u5, rfl⟩ := u5.go b3
    refine ⟨v3, rfl, KW.weak (h := inferInstance) u5, ?_⟩
    clear o3 b3
    try simp only [Act.put, List.setIfInBounds_toArray, List.set_cons_succ, List.set_cons_zero]
    refine mx_only (by rfl) ?_
    refine wp_enters (f := 43) (args := #[v3]) (by go_simp) ?_
    have FW := refWide_any v3 z _ R3 hz1 (by omega)
    rw [hz2, hx2, hy2, hL, hBt] at FW
    refine FW.mono ?_
    rintro e w' ⟨rfl, b4⟩
    obtain ⟨u5, rfl⟩ := u5.go b4
    refine ⟨_, rfl, KW.weak (h := inferInstance) u5, ?_⟩
    clear b4 FW R3 hz1 hz2 hz3 hx1 hx2 hx3 hy1 hy2 hy3
    try simp only [Act.put, List.setIfInBounds_toArray, List.set_cons_succ, List.set_cons_zero]
    refine mixg_value (v := .tuple #[wv q, .bool false]) (by rfl) (by intro w; go_simp) ?_
    try simp only [Act.put, List.setIfInBounds_toArray, List.set_cons_succ, List.set_cons_zero]
    refine mixg_value (v := wv q) (by rfl) (by intro w; go_simp) ?_
    try simp only [Act.put, List.setIfInBounds_toArray, List.set_cons_succ, List.set_cons_zero]
    refine mixg_value (v := .bool false) (by rfl) (by intro w; go_simp) ?_
    try simp only [Act.put, List.setIfInBounds_toArray, List.set_cons_succ, List.set_cons_zero]
    refine mixg_store (by rfl) rfl rfl inferInstance inferInstance inferInstance inferInstance fun u5 => ?_
    refine mixg_then (v := .bool false) (by rfl) (by go_simp) (KW.weak (h := inferInstance) u5) ?_
    try simp only [Act.put, List.setIfInBounds_toArray, List.set_cons_succ, List.set_cons_zero]
    refine mix_nil ?_
    go_wp2_with (first
      | ((with_reducible refine ls_skip ?_ ?_); (exact rfl); (try simp only [Act.put, List.setIfInBounds_toArray, List.set_cons_succ, List.set_cons_zero]))
      | ((with_reducible refine ck_load ?_); first | refine ls_load rfl inferInstance inferInstance ?_ | refine ls_cell rfl inferInstance inferInstance ?_)
      | ((with_reducible refine ck_store ?_); refine ls_store rfl rfl inferInstance inferInstance inferInstance fun _ => ?_)
      | ((with_reducible refine ck_build (t := 39) (xs := #[]) ?_); refine ls_I0 ?_))
    exact bd_cell_tmp Try.results27 rfl rfl inferInstance inferInstance ⟨rfl, KW.below _⟩
  · refine wp_enters (f := 45) (args := #[wv a]) (by go_simp) ?_
    refine (HDA.out _).mono ?_
    rintro e w' ⟨v1, x, rfl, ⟨hx1, hx2, hx3⟩, o1, b1⟩
    have R1 := o1.rd
    obtain ⟨u5, rfl⟩ := u5.go b1
    refine ⟨v1, rfl, KW.weak (h := inferInstance) u5, ?_⟩
    clear o1 b1
    try simp only [Act.put, List.setIfInBounds_toArray, List.set_cons_succ, List.set_cons_zero]
    refine fl_both (by rfl) (by rfl) ?_ ?_
    · refine wp_allocs inferInstance inferInstance fun g8 u5 b8 => ?_
      have R1 := R1.later b8 (Nat.le_refl _)
      clear b8
      try simp only [Act.put, List.setIfInBounds_toArray, List.set_cons_succ, List.set_cons_zero]
      simp only [List.cons_append, List.nil_append]
      refine mx_only (by rfl) ?_
      refine wp_enters (f := 45) (args := #[wv b]) (by go_simp) ?_
      refine (HDB.out _).mono ?_
      rintro e w' ⟨v2, y, rfl, ⟨hy1, hy2, hy3⟩, o2, b2⟩
      have R1 := R1.later b2 (Nat.le_refl _)
      have R2 := o2.rd
      obtain ⟨u5, rfl⟩ := u5.go b2
      refine ⟨v2, rfl, KW.weak (h := inferInstance) u5, ?_⟩
      clear o2 b2
      try simp only [Act.put, List.setIfInBounds_toArray, List.set_cons_succ, List.set_cons_zero]
      refine mx_only (by rfl) ?_
      refine wp_enters (f := 44) (args := #[v1, v2]) (by go_simp) ?_
      refine (times_any v1 v2 x y _ R1 R2 hx1 hy1 (by omega) (by omega)).mono ?_
      rintro e w' ⟨v3, z, rfl, ⟨hz1, hz2, hz3⟩, o3, b3⟩
      have R3 := o3.rd
      obtain ⟨u5, rfl⟩ := u5.go b3
      refine ⟨v3, rfl, KW.weak (h := inferInstance) u5, ?_⟩
      clear o3 b3
      try simp only [Act.put, List.setIfInBounds_toArray, List.set_cons_succ, List.set_cons_zero]
      refine mx_only (by rfl) ?_
      refine wp_enters (f := 43) (args := #[v3]) (by go_simp) ?_
      have FW := refWide_any v3 z _ R3 hz1 (by omega)
      rw [hz2, hx2, hy2, hL, hBt] at FW
      refine FW.mono ?_
      rintro e w' ⟨rfl, b4⟩
      obtain ⟨u5, rfl⟩ := u5.go b4
      refine ⟨_, rfl, KW.weak (h := inferInstance) u5, ?_⟩
      clear b4 FW R3 hz1 hz2 hz3 hx1 hx2 hx3 hy1 hy2 hy3
      try simp only [Act.put, List.setIfInBounds_toArray, List.set_cons_succ, List.set_cons_zero]
      refine mixg_value (v := .tuple #[wv q, .bool false]) (by rfl) (by intro w; go_simp) ?_
      try simp only [Act.put, List.setIfInBounds_toArray, List.set_cons_succ, List.set_cons_zero]
      refine mixg_value (v := wv q) (by rfl) (by intro w; go_simp) ?_
      try simp only [Act.put, List.setIfInBounds_toArray, List.set_cons_succ, List.set_cons_zero]
      refine mixg_value (v := .bool false) (by rfl) (by intro w; go_simp) ?_
      try simp only [Act.put, List.setIfInBounds_toArray, List.set_cons_succ, List.set_cons_zero]
      refine mixg_store (by rfl) rfl rfl inferInstance inferInstance inferInstance inferInstance fun u5 => ?_
      refine mixg_then (v := .bool false) (by rfl) (by go_simp) (KW.weak (h := inferInstance) u5) ?_
      try simp only [Act.put, List.setIfInBounds_toArray, List.set_cons_succ, List.set_cons_zero]
      refine mix_nil ?_
      go_wp2_with (first
        | ((with_reducible refine ls_skip ?_ ?_); (exact rfl); (try simp only [Act.put, List.setIfInBounds_toArray, List.set_cons_succ, List.set_cons_zero]))
        | ((with_reducible refine ck_load ?_); first | refine ls_load rfl inferInstance inferInstance ?_ | refine ls_cell rfl inferInstance inferInstance ?_)
        | ((with_reducible refine ck_store ?_); refine ls_store rfl rfl inferInstance inferInstance inferInstance fun _ => ?_)
        | ((with_reducible refine ck_build (t := 39) (xs := #[]) ?_); refine ls_I0 ?_))
      exact bd_cell_tmp Try.results27 rfl rfl inferInstance inferInstance ⟨rfl, KW.below _⟩
    · refine wp_enters (f := 45) (args := #[wv b]) (by go_simp) ?_
      refine (HDB.out _).mono ?_
      rintro e w' ⟨v2, y, rfl, ⟨hy1, hy2, hy3⟩, o2, b2⟩
      have R1 := R1.later b2 (Nat.le_refl _)
      have R2 := o2.rd
      obtain ⟨u5, rfl⟩ := u5.go b2
      refine ⟨v2, rfl, KW.weak (h := inferInstance) u5, ?_⟩
      clear o2 b2
      try simp only [Act.put, List.setIfInBounds_toArray, List.set_cons_succ, List.set_cons_zero]
      refine fl_both (by rfl) (by rfl) ?_ ?_
      · refine wp_allocs inferInstance inferInstance fun g8 u5 b8 => ?_
        have R1 := R1.later b8 (Nat.le_refl _)
        have R2 := R2.later b8 (Nat.le_refl _)
        clear b8
        try simp only [Act.put, List.setIfInBounds_toArray, List.set_cons_succ, List.set_cons_zero]
        simp only [List.cons_append, List.nil_append]
        refine mx_only (by rfl) ?_
        refine wp_enters (f := 44) (args := #[v1, v2]) (by go_simp) ?_
        refine (times_any v1 v2 x y _ R1 R2 hx1 hy1 (by omega) (by omega)).mono ?_
        rintro e w' ⟨v3, z, rfl, ⟨hz1, hz2, hz3⟩, o3, b3⟩
        have R3 := o3.rd
        obtain ⟨u5, rfl⟩ := u5.go b3
        refine ⟨v3, rfl, KW.weak (h := inferInstance) u5, ?_⟩
        clear o3 b3
        try simp only [Act.put, List.setIfInBounds_toArray, List.set_cons_succ, List.set_cons_zero]
        refine mx_only (by rfl) ?_
        refine wp_enters (f := 43) (args := #[v3]) (by go_simp) ?_
        have FW := refWide_any v3 z _ R3 hz1 (by omega)
        rw [hz2, hx2, hy2, hL, hBt] at FW
        refine FW.mono ?_
        rintro e w' ⟨rfl, b4⟩
        obtain ⟨u5, rfl⟩ := u5.go b4
        refine ⟨_, rfl, KW.weak (h := inferInstance) u5, ?_⟩
        clear b4 FW R3 hz1 hz2 hz3 hx1 hx2 hx3 hy1 hy2 hy3
        try simp only [Act.put, List.setIfInBounds_toArray, List.set_cons_succ, List.set_cons_zero]
        refine mixg_value (v := .tuple #[wv q, .bool false]) (by rfl) (by intro w; go_simp) ?_
        try simp only [Act.put, List.setIfInBounds_toArray, List.set_cons_succ, List.set_cons_zero]
        refine mixg_value (v := wv q) (by rfl) (by intro w; go_simp) ?_
        try simp only [Act.put, List.setIfInBounds_toArray, List.set_cons_succ, List.set_cons_zero]
        refine mixg_value (v := .bool false) (by rfl) (by intro w; go_simp) ?_
        try simp only [Act.put, List.setIfInBounds_toArray, List.set_cons_succ, List.set_cons_zero]
        refine mixg_store (by rfl) rfl rfl inferInstance inferInstance inferInstance inferInstance fun u5 => ?_
        refine mixg_then (v := .bool false) (by rfl) (by go_simp) (KW.weak (h := inferInstance) u5) ?_
        try simp only [Act.put, List.setIfInBounds_toArray, List.set_cons_succ, List.set_cons_zero]
        refine mix_nil ?_
        go_wp2_with (first
          | ((with_reducible refine ls_skip ?_ ?_); (exact rfl); (try simp only [Act.put, List.setIfInBounds_toArray, List.set_cons_succ, List.set_cons_zero]))
          | ((with_reducible refine ck_load ?_); first | refine ls_load rfl inferInstance inferInstance ?_ | refine ls_cell rfl inferInstance inferInstance ?_)
          | ((with_reducible refine ck_store ?_); refine ls_store rfl rfl inferInstance inferInstance inferInstance fun _ => ?_)
          | ((with_reducible refine ck_build (t := 39) (xs := #[]) ?_); refine ls_I0 ?_))
        exact bd_cell_tmp Try.results27 rfl rfl inferInstance inferInstance ⟨rfl, KW.below _⟩
      · refine wp_enters (f := 44) (args := #[v1, v2]) (by go_simp) ?_
        refine (times_any v1 v2 x y _ R1 R2 hx1 hy1 (by omega) (by omega)).mono ?_
        rintro e w' ⟨v3, z, rfl, ⟨hz1, hz2, hz3⟩, o3, b3⟩
        have R3 := o3.rd
        obtain ⟨u5, rfl⟩ := u5.go b3
        refine ⟨v3, rfl, KW.weak (h := inferInstance) u5, ?_⟩
        clear o3 b3
        try simp only [Act.put, List.setIfInBounds_toArray, List.set_cons_succ, List.set_cons_zero]
        refine fl_both (by rfl) (by rfl) ?_ ?_
        · refine wp_allocs inferInstance inferInstance fun g8 u5 b8 => ?_
          have R3 := R3.later b8 (Nat.le_refl _)
          clear b8
          try simp only [Act.put, List.setIfInBounds_toArray, List.set_cons_succ, List.set_cons_zero]
          simp only [List.cons_append, List.nil_append]
          refine mx_only (by rfl) ?_
          refine wp_enters (f := 43) (args := #[v3]) (by go_simp) ?_
          have FW := refWide_any v3 z _ R3 hz1 (by omega)
          rw [hz2, hx2, hy2, hL, hBt] at FW
          refine FW.mono ?_
          rintro e w' ⟨rfl, b4⟩
          obtain ⟨u5, rfl⟩ := u5.go b4
          refine ⟨_, rfl, KW.weak (h := inferInstance) u5, ?_⟩
          clear b4 FW R3 hz1 hz2 hz3 hx1 hx2 hx3 hy1 hy2 hy3
          try simp only [Act.put, List.setIfInBounds_toArray, List.set_cons_succ, List.set_cons_zero]
          refine mixg_value (v := .tuple #[wv q, .bool false]) (by rfl) (by intro w; go_simp) ?_
          try simp only [Act.put, List.setIfInBounds_toArray, List.set_cons_succ, List.set_cons_zero]
          refine mixg_value (v := wv q) (by rfl) (by intro w; go_simp) ?_
          try simp only [Act.put, List.setIfInBounds_toArray, List.set_cons_succ, List.set_cons_zero]
          refine mixg_value (v := .bool false) (by rfl) (by intro w; go_simp) ?_
          try simp only [Act.put, List.setIfInBounds_toArray, List.set_cons_succ, List.set_cons_zero]
          refine mixg_store (by rfl) rfl rfl inferInstance inferInstance inferInstance inferInstance fun u5 => ?_
          refine mixg_then (v := .bool false) (by rfl) (by go_simp) (KW.weak (h := inferInstance) u5) ?_
          try simp only [Act.put, List.setIfInBounds_toArray, List.set_cons_succ, List.set_cons_zero]
          refine mix_nil ?_
          go_wp2_with (first
            | ((with_reducible refine ls_skip ?_ ?_); (exact rfl); (try simp only [Act.put, List.setIfInBounds_toArray, List.set_cons_succ, List.set_cons_zero]))
            | ((with_reducible refine ck_load ?_); first | refine ls_load rfl inferInstance inferInstance ?_ | refine ls_cell rfl inferInstance inferInstance ?_)
            | ((with_reducible refine ck_store ?_); refine ls_store rfl rfl inferInstance inferInstance inferInstance fun _ => ?_)
            | ((with_reducible refine ck_build (t := 39) (xs := #[]) ?_); refine ls_I0 ?_))
          exact bd_cell_tmp Try.results27 rfl rfl inferInstance inferInstance ⟨rfl, KW.below _⟩
        · refine wp_enters (f := 43) (args := #[v3]) (by go_simp) ?_
          have FW := refWide_any v3 z _ R3 hz1 (by omega)
          rw [hz2, hx2, hy2, hL, hBt] at FW
          refine FW.mono ?_
          rintro e w' ⟨rfl, b4⟩
          obtain ⟨u5, rfl⟩ := u5.go b4
          refine ⟨_, rfl, KW.weak (h := inferInstance) u5, ?_⟩
          clear b4 FW R3 hz1 hz2 hz3 hx1 hx2 hx3 hy1 hy2 hy3
          try simp only [Act.put, List.setIfInBounds_toArray, List.set_cons_succ, List.set_cons_zero]
          refine fl_value (v := .tuple #[wv q, .bool false]) (by rfl) (by intro w; go_simp) ?_
          try simp only [Act.put, List.setIfInBounds_toArray, List.set_cons_succ, List.set_cons_zero]
          refine fl_value (v := wv q) (by rfl) (by intro w; go_simp) ?_
          try simp only [Act.put, List.setIfInBounds_toArray, List.set_cons_succ, List.set_cons_zero]
          refine fl_value (v := .bool false) (by rfl) (by intro w; go_simp) ?_
          try simp only [Act.put, List.setIfInBounds_toArray, List.set_cons_succ, List.set_cons_zero]
          refine fl_nil (by rfl) ?_
          refine wp_allocs inferInstance inferInstance fun g8 u5 b8 => ?_
          clear b8
          try simp only [Act.put, List.setIfInBounds_toArray, List.set_cons_succ, List.set_cons_zero]
          refine mixg_store (by rfl) rfl rfl inferInstance inferInstance inferInstance inferInstance fun u5 => ?_
          refine mixg_then (v := .bool false) (by rfl) (by go_simp) (KW.weak (h := inferInstance) u5) ?_
          try simp only [Act.put, List.setIfInBounds_toArray, List.set_cons_succ, List.set_cons_zero]
          refine mix_nil ?_
          go_wp2_with (first
            | ((with_reducible refine ls_skip ?_ ?_); (exact rfl); (try simp only [Act.put, List.setIfInBounds_toArray, List.set_cons_succ, List.set_cons_zero]))
            | ((with_reducible refine ck_load ?_); first | refine ls_load rfl inferInstance inferInstance ?_ | refine ls_cell rfl inferInstance inferInstance ?_)
            | ((with_reducible refine ck_store ?_); refine ls_store rfl rfl inferInstance inferInstance inferInstance fun _ => ?_)
            | ((with_reducible refine ck_build (t := 39) (xs := #[]) ?_); refine ls_I0 ?_))
          exact bd_cell_tmp Try.results27 rfl rfl inferInstance inferInstance ⟨rfl, KW.below _⟩
theorem rmul_any (s t : Bool) (a b : Nat) (ha : Hid (a < M)) (hb : Hid (b < M)) (w : World) : Calls Try.prog 27 #[iv s a, iv t b] w (Ret (fv (sg s a * sg t b)) w) := by
  by_cases hf : a * b < M
  · exact rmul_fit s t a b ha hb hf w
  · exact rmul_big s t a b ha hb hf w
end Go.Proofs.Ytoahcjjndjdljaa.SignW

/- The document's own answers of layer 5: order, digits: contracts over the translation. -/
namespace Go.Proofs.Ytoahcjjndjdljaa.SignW
open Go.RowKit
open DigM WideM WideV KM DigW WideW QuotW QuotM DecM FmtW SignM
open Go.Lib (decDigits nDigits)
/-- what is left of a comparison: a number z that may be, which lies to 0 as the difference does -/
theorem cmp_cases (z : Int) : (ng z = true ∧ cmpZ z = -1) ∨ (ng z = false ∧ z.natAbs = 0 ∧ cmpZ z = 0) ∨ (ng z = false ∧ z.natAbs ≠ 0 ∧ cmpZ z = 1) := by
  unfold ng cmpZ
  by_cases h : z < 0
  · exact Or.inl ⟨decide_eq_true h, if_pos h⟩
  · rw [if_neg h]
    by_cases h0 : z = 0
    · exact Or.inr (Or.inl ⟨decide_eq_false h, by omega, if_pos h0⟩)
    · exact Or.inr (Or.inr ⟨decide_eq_false h, by omega, if_neg h0⟩)
theorem cmpZ_far {x y : Int} (_hx : x.natAbs < M) (hy : y.natAbs < M) (h : ¬ (x - y).natAbs < M) : cmpZ x = cmpZ (x - y) := by
  unfold cmpZ
  by_cases h1 : x < 0
  · rw [if_pos h1, if_pos (by omega)]
  · rw [if_neg h1, if_neg (by omega), if_neg (by omega), if_neg (by omega)]
theorem eqF5 (y : Nat) (hy : y < M) (h : ¬ y = 0) (w : World) : (Op.equalIn 10000 37 (.agg (cells 8 y)) (.agg (cells 8 0))).run Try.prog w = .ok false w := by
  rw [eqlW y 0 hy M_pos w, show eqB y 0 = false from decide_eq_false h]
end Go.Proofs.Ytoahcjjndjdljaa.SignW

/- The laws of layer 5: the layer's own example; contracts on numbers that may be. -/
namespace Go.Proofs.Ytoahcjjndjdljaa.SignW
open Go.RowKit
open DigM WideM WideV KM DigW WideW QuotW QuotM DecM FmtW SignM
open Go.Lib (decDigits nDigits)
def TrueAt5 (w : World) (e : Ending) (w' : World) : Prop := e = .returned (.bool true) ∧ Below w.heap.size w w'
section
variable {x y : Int} (hx : Hid (x.natAbs < M)) (hy : Hid (y.natAbs < M)) (w : World)
include hx
theorem rfix_nv : Calls Try.prog 46 #[nv x] w (Ret (nv x) w) := by have := rfix_any (ng x) x.natAbs hx w; rwa [sg_ng] at this
include hy
theorem radd_nv : Calls Try.prog 29 #[nv x, nv y] w (Ret (fv (x + y)) w) := by have := radd_any (ng x) (ng y) x.natAbs y.natAbs hx hy w; rwa [sg_ng, sg_ng] at this
theorem rmul_nv : Calls Try.prog 27 #[nv x, nv y] w (Ret (fv (x * y)) w) := by have := rmul_any (ng x) (ng y) x.natAbs y.natAbs hx hy w; rwa [sg_ng, sg_ng] at this
end
theorem small_M {n : Nat} (h : n < 18446744073709551617) : n < M := Nat.lt_trans h m_big
theorem dig4 : decDigits 4 = [52] := by rw [DecM.dec_small (by decide)]; decide +kernel
end Go.Proofs.Ytoahcjjndjdljaa.SignW

/- Arguments of layer 5, handed in as data: structs of a sign and eight words are numbers with a sign. -/
namespace Go.Proofs.Ytoahcjjndjdljaa.SignW
open Go.RowKit Go.WideShapes Go.ChangeShapes
open WideM WideV
section
variable {P : Program} {H : Type} {enc : TypeId × Value → H} {w : World} {base : Nat} {sp : Nat → Bool} {held : Bool}
/-- cells that read as an array of integers -/
theorem arr_ints {t e : TypeId} {n fuel : Nat} {k : IntKind} {l : List Value} {x : DataW H × List MemPlace}
    (ht : P.underlying t = some (.array n e)) (he : P.underlying e = some (.int k)) (hce : P.cellsOf e = 1) (hct : P.cellsOf t = n) (hf : DataW.trod enc P w base sp held fuel t l = some x) :
    ∃ zs : List Int, l = zs.map (Value.int k) ∧ zs.length = n ∧ ∀ z ∈ zs, (Lit.int k z).wf = true := by
  obtain ⟨xs, m, _, _, hl, hxl, hx⟩ := DataW.trod_array ht hf
  rw [hct] at hl
  rw [hce] at hx
  have each : ∀ i, i < n → ∃ z, l[i]? = some (.int k z) ∧ (Lit.int k z).wf = true := by
    intro i hi
    have h1 := hx i hi
    have h2 : xs[i]? = some (xs[i]'(by omega)) := List.getElem?_eq_getElem _
    rw [h2] at h1
    obtain ⟨z, hc, _, hw⟩ := DataW.trod_int he h1
    refine ⟨z, ?_, hw⟩
    have := congrArg (·[0]?) hc
    simpa [List.getElem?_take, List.getElem?_drop] using this
  refine ⟨(List.range n).map fun i => intOf (l[i]?.getD .nilIface), ?_, by simp, ?_⟩
  · apply List.ext_getElem?
    intro i
    by_cases hi : i < n
    · obtain ⟨z, hz, _⟩ := each i hi
      simp [hi, hz, intOf]
    · simp [hi]; omega
  · intro z hz
    obtain ⟨i, hi, rfl⟩ := List.mem_map.1 hz
    rw [List.mem_range] at hi
    obtain ⟨z, hz, hw⟩ := each i hi
    rw [hz]; exact hw
end
section
variable {H : Type} {enc : TypeId × Value → H} {w : World} {base b0 : Nat} {sp : Nat → Bool} {held : Bool} {r : Reach} {v : Value} {d : DataW H} {p : List MemPlace}
set_option maxRecDepth 100000 in
theorem open_int (hv : Value.okWide Try.prog w r b0 39 v) (h : DataW.Trod enc Try.prog w base sp held 39 v d p) : ∃ (s : Bool) (a : Nat), a < M ∧ v = iv s a := by
  obtain ⟨cs, rfl, hsz⟩ := okWide_struct Try.underlying39 hv
  obtain ⟨fuel, hf⟩ := h
  obtain ⟨y0, y1, n, _, hl, h0, h1⟩ := trod_struct2 Try.underlying39 hf
  have hc0 : Try.prog.cellsOf 4 = 1 := by kernel_rfl
  have hc1 : Try.prog.cellsOf 37 = 8 := by kernel_rfl
  have hc : Try.prog.cellsOf 39 = 9 := by kernel_rfl
  have ecs : (Value.agg cs).cells.toList = cs.toList := rfl
  rw [ecs] at h0 h1 hl
  rw [hc] at hl
  replace h0 : DataW.trod enc Try.prog w base sp held n 4 ((cs.toList.drop 0).take (Try.prog.cellsOf 4)) = some y0 := h0
  replace h1 : DataW.trod enc Try.prog w base sp held n 37 ((cs.toList.drop 1).take (Try.prog.cellsOf 37)) = some y1 := h1
  rw [hc0, List.drop_zero] at h0
  rw [hc1] at h1
  obtain ⟨zs, hzs, hzl, hw⟩ := arr_ints Try.underlying37 Try.underlying35 (by kernel_rfl) hc1 h1
  obtain ⟨a, ha, ea⟩ := WideA.wide_of hzl hw
  obtain ⟨s, hs, _⟩ := DataW.trod_bool Try.underlying4 h0
  refine ⟨s, a, ha, ?_⟩
  have e : cs.toList = [.bool s] ++ (cells 8 a).toList := by
    rw [← List.take_append_drop 1 cs.toList, hs, ← ea]
    congr 1
    rw [← hzs, List.take_of_length_le (by simp [hl])]
  have e2 : cs = ([Value.bool s] ++ (cells 8 a).toList).toArray := by rw [← e]
  rw [e2]
  rfl
end
end Go.Proofs.Ytoahcjjndjdljaa.SignW

