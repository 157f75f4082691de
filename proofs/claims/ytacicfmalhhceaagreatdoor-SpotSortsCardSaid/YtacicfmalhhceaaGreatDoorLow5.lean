/-
  Texts of the layers below in one: RatMath Rat RatFn RatFn2 RatRef RatLaws RatArgs.
-/
import Derived.Test.YtacicfmalhhceaaGreatDoorBase
import Derived.Test.YtacicfmalhhceaaGreatDoorLow4
/- Fractions: plain facts. -/
namespace RatM
/-- in lowest terms -/
def lowN (z : Int) (d : Nat) : Int := z / (Nat.gcd z.natAbs d : Int)
def lowD (z : Int) (d : Nat) : Nat := d / Nat.gcd z.natAbs d
/-- may be, but for its size: in lowest terms -/
def Terms (z : Int) (d : Nat) : Prop := 0 < d ∧ Nat.gcd z.natAbs d = 1
theorem gcd_pos {z : Int} {d : Nat} (h : 0 < d) : 0 < Nat.gcd z.natAbs d := Nat.gcd_pos_of_pos_right _ h
theorem lowD_pos {z : Int} {d : Nat} (h : 0 < d) : 0 < lowD z d := Nat.div_pos (Nat.le_of_dvd h (Nat.gcd_dvd_right _ _)) (gcd_pos h)
theorem lowN_mul {z : Int} {d : Nat} : lowN z d * (Nat.gcd z.natAbs d : Int) = z := by
  unfold lowN
  refine Int.ediv_mul_cancel ?_
  rw [← Int.natAbs_dvd_natAbs, Int.natAbs_natCast]
  exact Nat.gcd_dvd_left _ _
theorem lowD_mul {z : Int} {d : Nat} : lowD z d * Nat.gcd z.natAbs d = d := Nat.div_mul_cancel (Nat.gcd_dvd_right _ _)
theorem lowN_abs {z : Int} {d : Nat} : (lowN z d).natAbs = z.natAbs / Nat.gcd z.natAbs d := by
  rcases Nat.eq_zero_or_pos (Nat.gcd z.natAbs d) with h | h
  · unfold lowN; rw [h]; simp
  · have := congrArg Int.natAbs (lowN_mul (z := z) (d := d))
    rw [Int.natAbs_mul, Int.natAbs_natCast] at this
    generalize Nat.gcd z.natAbs d = g at *
    rw [← this, Nat.mul_div_cancel _ h]
theorem low_terms {z : Int} {d : Nat} (h : 0 < d) : Terms (lowN z d) (lowD z d) := by
  refine ⟨lowD_pos h, ?_⟩
  rw [lowN_abs]
  unfold lowD
  rw [Nat.gcd_div (Nat.gcd_dvd_left _ _) (Nat.gcd_dvd_right _ _), Nat.div_self (gcd_pos h)]
/-- the value stays -/
theorem low_value (z : Int) (d : Nat) : lowN z d * d = z * lowD z d := by
  have h1 := lowN_mul (z := z) (d := d)
  have h2 := lowD_mul (z := z) (d := d)
  generalize Nat.gcd z.natAbs d = g at *
  generalize lowN z d = n at *
  generalize lowD z d = e at *
  subst h1 h2
  rw [Int.natCast_mul]
  ac_rfl
theorem low_same {z : Int} {d : Nat} (h : Nat.gcd z.natAbs d = 1) : lowN z d = z ∧ lowD z d = d := by
  unfold lowN lowD; rw [h]; simp
/-- fractions in lowest terms that are worth the same are the same -/
theorem terms_unique {z y : Int} {d e : Nat} (h1 : Terms z d) (h2 : Terms y e) (h : z * e = y * d) : z = y ∧ d = e := by
  obtain ⟨hd, g1⟩ := h1
  obtain ⟨he, g2⟩ := h2
  have ha := congrArg Int.natAbs h
  rw [Int.natAbs_mul, Int.natAbs_mul, Int.natAbs_natCast, Int.natAbs_natCast] at ha
  have d1 : d ∣ e := by
    have : d ∣ z.natAbs * e := by rw [ha]; exact Nat.dvd_mul_left _ _
    exact Nat.Coprime.dvd_of_dvd_mul_left (Nat.Coprime.symm g1) this
  have d2 : e ∣ d := by
    have : e ∣ y.natAbs * d := by rw [← ha]; exact Nat.dvd_mul_left _ _
    exact Nat.Coprime.dvd_of_dvd_mul_left (Nat.Coprime.symm g2) this
  have hde := Nat.dvd_antisymm d1 d2
  subst hde
  exact ⟨Int.eq_of_mul_eq_mul_right (by omega) h, rfl⟩
/-- how fractions compare -/
def crossD (z : Int) (d : Nat) (y : Int) (e : Nat) : Int := z * e - y * d
theorem cross_trans {z y x : Int} {d e f : Nat} (hd : 0 < d) (he : 0 < e) (hf : 0 < f) (h1 : crossD z d y e ≤ 0) (h2 : crossD y e x f ≤ 0) : crossD z d x f ≤ 0 := by
  unfold crossD at *
  have a1 : z * e * f ≤ y * d * f := Int.mul_le_mul_of_nonneg_right (by omega) (by omega)
  have a2 : y * f * d ≤ x * e * d := Int.mul_le_mul_of_nonneg_right (by omega) (by omega)
  have a3 : z * f * e ≤ x * d * e := by
    rw [show z * f * e = z * e * f by ac_rfl, show x * d * e = x * e * d by ac_rfl]
    exact Int.le_trans a1 (by rw [show y * d * f = y * f * d by ac_rfl]; exact a2)
  have := Int.le_of_mul_le_mul_right a3 (by omega)
  omega
theorem floor_low {z : Int} {d : Nat} (h : 0 < d) : z / (d : Int) * d ≤ z := Int.ediv_mul_le z (by omega)
theorem floor_high {z : Int} {d : Nat} (h : 0 < d) : z < (z / (d : Int) + 1) * d := Int.lt_ediv_add_one_mul_self z (by omega)
theorem floor_neg {a d : Nat} (h : 0 < d) : (-(a : Int)) / (d : Int) = -((if a % d = 0 then a / d else a / d + 1 : Nat) : Int) := by
  have hm := Nat.mod_lt a h
  have hd := Nat.div_add_mod a d
  rw [Nat.mul_comm] at hd
  split
  · rename_i h0
    rw [h0, Nat.add_zero] at hd
    generalize a / d = q at *
    subst hd
    rw [Int.natCast_mul, ← Int.neg_mul, Int.mul_ediv_cancel _ (by omega)]
  · rename_i h0
    generalize a / d = q at *
    generalize a % d = m at *
    have e : -(a : Int) = ((d : Int) - m) + (-((q + 1 : Nat) : Int)) * d := by
      rw [← hd, Int.natCast_add, Int.natCast_mul, Int.natCast_add, Int.neg_mul, Int.add_mul]
      simp only [Int.natCast_one, Int.one_mul]
      generalize (q : Int) * d = x
      omega
    rw [e, Int.add_mul_ediv_right _ _ (by omega), Int.ediv_eq_zero_of_lt (by omega) (by omega), Int.zero_add]
/-- a part of a number, cut -/
theorem part_le {n num den : Nat} (h : num ≤ den) : n * num / den ≤ n := by
  rcases Nat.eq_zero_or_pos den with h0 | h0
  · subst h0; rw [Nat.div_zero]; omega
  · rw [Nat.div_le_iff_le_mul_add_pred h0]
    have := Nat.mul_le_mul_left n h
    rw [Nat.mul_comm den n]
    omega
theorem part_mono {n num more den : Nat} (h : num ≤ more) : n * num / den ≤ n * more / den := Nat.div_le_div_right (Nat.mul_le_mul_left n h)
end RatM

/- Structs by their cells: Ratio. -/
namespace Go.Proofs.YtacicfmalhhceaaGreatDoor.RatW
open Go.RowKit
open WideM WideV KM WideW SignW
set_option maxRecDepth 100000 in
theorem lit_B {n : Nat} (h : n < 18446744073709551616) : n < WideM.B := by rw [WideM.B_eq]; exact h
instance scalBool : Scal Tryz.prog 4 := ⟨by kernel_rfl⟩
instance scalInt : Scal Tryz.prog 3 := ⟨by kernel_rfl⟩
instance cellI_0 (s : Bool) (n : Nat) : CellV Tryz.prog 4 (ic s n) 0 (.bool s) := ⟨⟨by kernel_rfl⟩, rfl⟩
theorem eqlI_d (d : Nat) (s : Bool) (n : Nat) (t : Bool) (m : Nat) (hn : n < M) (hm : m < M) (w : World) : (Op.equalIn (d + 3) 26 (.agg (ic s n)) (.agg (ic t m))).run Tryz.prog w = .ok (s == t && eqB n m) w :=
  eqStruct [(4, 0), (24, 1)] [s == t, eqB n m] (by kernel_rfl) (by kernel_rfl) (by kernel_rfl) ⟨⟨_, _, run_part_plain w (by kernel_rfl) (ic_0 _ _), run_part_plain w (by kernel_rfl) (ic_0 _ _), run_equalIn_bool w (d + 1) _ _ _ Tryz.underlying4⟩, ⟨.agg (cells 8 n), .agg (cells 8 m), part_row (by rw [cells_size]; exact rowW) (by kernel_rfl) w, part_row (by rw [cells_size]; exact rowW) (by kernel_rfl) w, eqlW_d d _ _ hn hm w⟩, trivial⟩
theorem selfI_d (d : Nat) (s : Bool) (n : Nat) (w : World) : (Op.equalIn (d + 3) 26 (.agg (ic s n)) (.agg (ic s n))).run Tryz.prog w = .ok true w :=
  eqStruct [(4, 0), (24, 1)] [true, true] (by kernel_rfl) (by kernel_rfl) (by kernel_rfl) ⟨⟨_, _, run_part_plain w (by kernel_rfl) (ic_0 _ _), run_part_plain w (by kernel_rfl) (ic_0 _ _), (run_equalIn_bool w (d + 1) _ _ _ Tryz.underlying4).trans (by simp)⟩, ⟨.agg (cells 8 n), .agg (cells 8 n), part_row (by rw [cells_size]; exact rowW) (by kernel_rfl) w, part_row (by rw [cells_size]; exact rowW) (by kernel_rfl) w, selfW_d d _ w⟩, trivial⟩
section
variable {ops : Array Oper} {Q : Exit → Act → World → Prop} {rest : List Oper} {r₀ : List St} {a : Act} {W : World} {L Lc : List Ent} {d : Option Tmp} {ty : TypeId} {ps : String} {af : Array Edge} {gd : Option (Nat × Bool)} {x y : Operand} {s : Bool} {n : Nat} {C : World → Prop} {TQ : Act → Prop}
theorem qq_I (hx : a.eval x = .bool s) (hy : a.eval y = .agg (cells 8 n)) (hw : Region.wanted ⟨d, .build 26 #[(0, x), (1, y)], ty, ps, af, gd⟩ (yielded ops a.tmps) = true) (h : QQ Tryz.prog ops C TQ rest (a.put d (.agg (ic s n)))) : QQ Tryz.prog ops C TQ (⟨d, .build 26 #[(0, x), (1, y)], ty, ps, af, gd⟩ :: rest) a := qq_value (fun w => exec_I hx hy w) hw h
theorem qq_I_1 (hy : a.eval y = .agg (cells 8 n)) (hw : Region.wanted ⟨d, .build 26 #[(1, y)], ty, ps, af, gd⟩ (yielded ops a.tmps) = true) (h : QQ Tryz.prog ops C TQ rest (a.put d (.agg (ic false n)))) : QQ Tryz.prog ops C TQ (⟨d, .build 26 #[(1, y)], ty, ps, af, gd⟩ :: rest) a := qq_value (fun w => exec_I1 hy w) hw h
theorem qq_I_ (hw : Region.wanted ⟨d, .build 26 #[], ty, ps, af, gd⟩ (yielded ops a.tmps) = true) (h : QQ Tryz.prog ops C TQ rest (a.put d (.agg (ic false 0)))) : QQ Tryz.prog ops C TQ (⟨d, .build 26 #[], ty, ps, af, gd⟩ :: rest) a := qq_value (fun w => exec_I0 w) hw h
theorem qq_W_ (hw : Region.wanted ⟨d, .build 24 #[], ty, ps, af, gd⟩ (yielded ops a.tmps) = true) (h : QQ Tryz.prog ops C TQ rest (a.put d (.agg (cells 8 0)))) : QQ Tryz.prog ops C TQ (⟨d, .build 24 #[], ty, ps, af, gd⟩ :: rest) a := qq_value (fun w => exec_W0 w) hw h
theorem qq_W_0 (hy : a.eval y = .int .u64 (n : Nat)) (hn : n < B) (hw : Region.wanted ⟨d, .build 24 #[(0, y)], ty, ps, af, gd⟩ (yielded ops a.tmps) = true) (h : QQ Tryz.prog ops C TQ rest (a.put d (.agg (cells 8 n)))) : QQ Tryz.prog ops C TQ (⟨d, .build 24 #[(0, y)], ty, ps, af, gd⟩ :: rest) a := qq_value (fun w => exec_W1 hy hn w) hw h
theorem mm_I (hx : a.eval x = .bool s) (hy : a.eval y = .agg (cells 8 n)) (h : MM Tryz.prog Q W Lc r₀ (a.put d (.agg (ic s n))) L) : MM Tryz.prog Q W Lc (.take ⟨d, .build 26 #[(0, x), (1, y)], ty, ps, af, none⟩ :: r₀) a L := mm_value (fun w => exec_I hx hy w) h
theorem mm_I_1 (hy : a.eval y = .agg (cells 8 n)) (h : MM Tryz.prog Q W Lc r₀ (a.put d (.agg (ic false n))) L) : MM Tryz.prog Q W Lc (.take ⟨d, .build 26 #[(1, y)], ty, ps, af, none⟩ :: r₀) a L := mm_value (fun w => exec_I1 hy w) h
theorem mm_I_ (h : MM Tryz.prog Q W Lc r₀ (a.put d (.agg (ic false 0))) L) : MM Tryz.prog Q W Lc (.take ⟨d, .build 26 #[], ty, ps, af, none⟩ :: r₀) a L := mm_value (fun w => exec_I0 w) h
theorem mm_W_ (h : MM Tryz.prog Q W Lc r₀ (a.put d (.agg (cells 8 0))) L) : MM Tryz.prog Q W Lc (.take ⟨d, .build 24 #[], ty, ps, af, none⟩ :: r₀) a L := mm_value (fun w => exec_W0 w) h
theorem mm_W_0 (hy : a.eval y = .int .u64 (n : Nat)) (hn : n < B) (h : MM Tryz.prog Q W Lc r₀ (a.put d (.agg (cells 8 n))) L) : MM Tryz.prog Q W Lc (.take ⟨d, .build 24 #[(0, y)], ty, ps, af, none⟩ :: r₀) a L := mm_value (fun w => exec_W1 hy hn w) h
theorem ls_W_c {m : Nat} {w : World} (hy : a.eval y = .int .u64 (m : Nat)) (hn : m < B) (h : wpList Tryz.prog ops Q rest (a.put d (.agg (cells 8 m))) w) : wpList Tryz.prog ops Q (⟨d, .build 24 #[(0, y)], ty, ps, af, none⟩ :: rest) a w := ls_W1 hy (Lib.hid hn) h
theorem lsg_W_c {m : Nat} {w : World} (hw : Region.wanted ⟨d, .build 24 #[(0, y)], ty, ps, af, gd⟩ (yielded ops a.tmps) = true) (hy : a.eval y = .int .u64 (m : Nat)) (hn : m < B) (h : wpList Tryz.prog ops Q rest (a.put d (.agg (cells 8 m))) w) : wpList Tryz.prog ops Q (⟨d, .build 24 #[(0, y)], ty, ps, af, gd⟩ :: rest) a w := lsg_value hw (exec_W1 hy hn w) h
theorem lsg_W_ {w : World} (hw : Region.wanted ⟨d, .build 24 #[], ty, ps, af, gd⟩ (yielded ops a.tmps) = true) (h : wpList Tryz.prog ops Q rest (a.put d (.agg (cells 8 0))) w) : wpList Tryz.prog ops Q (⟨d, .build 24 #[], ty, ps, af, gd⟩ :: rest) a w := lsg_value hw (exec_W0 w) h
theorem lsg_I {w : World} (hw : Region.wanted ⟨d, .build 26 #[(0, x), (1, y)], ty, ps, af, gd⟩ (yielded ops a.tmps) = true) (hx : a.eval x = .bool s) (hy : a.eval y = .agg (cells 8 n)) (h : wpList Tryz.prog ops Q rest (a.put d (.agg (ic s n))) w) : wpList Tryz.prog ops Q (⟨d, .build 26 #[(0, x), (1, y)], ty, ps, af, gd⟩ :: rest) a w := lsg_value hw (exec_I hx hy w) h
theorem lsg_I1 {w : World} (hw : Region.wanted ⟨d, .build 26 #[(1, y)], ty, ps, af, gd⟩ (yielded ops a.tmps) = true) (hy : a.eval y = .agg (cells 8 n)) (h : wpList Tryz.prog ops Q rest (a.put d (.agg (ic false n))) w) : wpList Tryz.prog ops Q (⟨d, .build 26 #[(1, y)], ty, ps, af, gd⟩ :: rest) a w := lsg_value hw (exec_I1 hy w) h
end
def rc (s : Bool) (n : Nat) (d : Nat) : Array Value := #[.bool s, .int .u64 (wd n 0 : Nat), .int .u64 (wd n 1 : Nat), .int .u64 (wd n 2 : Nat), .int .u64 (wd n 3 : Nat), .int .u64 (wd n 4 : Nat), .int .u64 (wd n 5 : Nat), .int .u64 (wd n 6 : Nat), .int .u64 (wd n 7 : Nat), .int .u64 (wd d 0 : Nat), .int .u64 (wd d 1 : Nat), .int .u64 (wd d 2 : Nat), .int .u64 (wd d 3 : Nat), .int .u64 (wd d 4 : Nat), .int .u64 (wd d 5 : Nat), .int .u64 (wd d 6 : Nat), .int .u64 (wd d 7 : Nat)]
abbrev rv (s : Bool) (n : Nat) (d : Nat) : Value := .agg (rc s n d)
set_option maxRecDepth 100000 in
theorem rc_size (s : Bool) (n : Nat) (d : Nat) : (rc s n d).size = 17 := rfl
set_option maxRecDepth 100000 in
instance partRatio_0Int (s : Bool) (n : Nat) (d : Nat) : Part Tryz.prog 26 (rc s n d) 0 (ic s n) := Part.of (rowI _ _) (by kernel_rfl)
set_option maxRecDepth 100000 in
instance putRatio_0Int (s : Bool) (n : Nat) (d : Nat) (s₂ : Bool) (n₂ : Nat) : PutP Tryz.prog 26 (rc s n d) 0 (ic s₂ n₂) (rc s₂ n₂ d) := ⟨rowI _ _, by kernel_rfl, by rw [ic_size]; exact (by decide : 0 + 9 ≤ 17), by kernel_rfl⟩
set_option maxRecDepth 100000 in
@[simp] theorem rc_0 (s : Bool) (n : Nat) (d : Nat) : (rc s n d)[0]? = some (.bool s) := rfl
set_option maxRecDepth 100000 in
@[simp] theorem rc_0' (s : Bool) (n : Nat) (d : Nat) (h : 0 < (rc s n d).size) : (rc s n d)[0]'h = .bool s := rfl
set_option maxRecDepth 100000 in
instance cellRatio_0 (s : Bool) (n : Nat) (d : Nat) : CellV Tryz.prog 4 (rc s n d) 0 (.bool s) := ⟨⟨by kernel_rfl⟩, rfl⟩
set_option maxRecDepth 100000 in
instance putRatio_0 (s : Bool) (n : Nat) (d : Nat) (s₂ : Bool) : PutV Tryz.prog 4 (rc s n d) 0 (.bool s₂) (rc s₂ n d) := ⟨by kernel_rfl, rfl, rfl, by rw [rc_size]; decide, rfl⟩
set_option maxRecDepth 100000 in
instance partRatio_1Wide (s : Bool) (n : Nat) (d : Nat) : Part Tryz.prog 24 (rc s n d) 1 (cells 8 n) := Part.of (by rw [cells_size]; exact rowW) (by kernel_rfl)
set_option maxRecDepth 100000 in
instance putRatio_1Wide (s : Bool) (n : Nat) (d : Nat) (n₂ : Nat) : PutP Tryz.prog 24 (rc s n d) 1 (cells 8 n₂) (rc s n₂ d) := ⟨by rw [cells_size]; exact rowW, cells_one _ _, by rw [cells_size]; exact (by decide : 1 + 8 ≤ 17), by kernel_rfl⟩
set_option maxRecDepth 100000 in
instance partRatio_9Wide (s : Bool) (n : Nat) (d : Nat) : Part Tryz.prog 24 (rc s n d) 9 (cells 8 d) := Part.of (by rw [cells_size]; exact rowW) (by kernel_rfl)
set_option maxRecDepth 100000 in
instance putRatio_9Wide (s : Bool) (n : Nat) (d : Nat) (d₂ : Nat) : PutP Tryz.prog 24 (rc s n d) 9 (cells 8 d₂) (rc s n d₂) := ⟨by rw [cells_size]; exact rowW, cells_one _ _, by rw [cells_size]; exact (by decide : 9 + 8 ≤ 17), by kernel_rfl⟩
section
variable {ops : Array Oper} {Q : Exit → Act → World → Prop} {rest : List Oper} {a : Act} {w : World} {d₀ : Option Tmp} {ty : TypeId} {ps : String} {af : Array Edge} {gd : Option (Nat × Bool)} {x0 : Operand} {x1 : Operand} {s : Bool} {n : Nat} {d : Nat}
end
end Go.Proofs.YtacicfmalhhceaaGreatDoor.RatW

/- package ratio: contracts over the translation. -/
namespace Go.Proofs.YtacicfmalhhceaaGreatDoor.RatW
open Go.RowKit
open DigM WideM WideV KM DigW WideW QuotW QuotM DecM FmtW SignM SignW
/-- is a fraction in lowest terms? -/
def termsB (s : Bool) (n d : Nat) : Bool := decide (d ≠ 0 ∧ (s && !eqB n 0) = s ∧ Nat.gcd n d = 1)
def smallB (n d : Nat) : Bool := decide (bl n ≤ 120 ∧ bl d ≤ 120)
/-- may a fraction be? -/
def mayB (s : Bool) (n d : Nat) : Bool := smallB n d && termsB s n d
abbrev lowV (r : Bool) (a b : Nat) : Value := rv (ng (sg r (a / Nat.gcd a b))) (sg r (a / Nat.gcd a b)).natAbs (b / Nat.gcd a b)
theorem eqI_fix (s : Bool) (n : Nat) (hn : n < M) (w : World) : (Op.equalIn 10000 26 (.agg (ic (ng (sg s n)) (sg s n).natAbs)) (.agg (ic s n))).run Tryz.prog w = .ok (decide ((s && !eqB n 0) = s)) w := by
  rw [eqlI _ _ _ _ (by rw [sg_abs]; exact hn) hn w, ng_sg, sg_abs, eqB_same, Bool.and_true]
  generalize eqB n 0 = o
  cases s <;> cases o <;> rfl
theorem gcd_lt {n d : Nat} (hn : n < M) (hd : d < M) : Nat.gcd n d < M := by
  rcases Nat.eq_zero_or_pos n with rfl | h
  · rw [Nat.gcd_zero_left]; exact hd
  · exact Nat.lt_of_le_of_lt (Nat.le_of_dvd h (Nat.gcd_dvd_left _ _)) hn
theorem eqlW1 (g : Nat) (hg : g < M) (w : World) : (Op.equalIn 10000 24 (.agg (cells 8 g)) (.agg (cells 8 1))).run Tryz.prog w = .ok (eqB g 1) w := eqlW g 1 hg (Nat.lt_trans (by omega : 1 < 18446744073709551617) m_big) w
end Go.Proofs.YtacicfmalhhceaaGreatDoor.RatW

/- package ratio: order, sum, product, floor, part: contracts over the translation. -/
namespace Go.Proofs.YtacicfmalhhceaaGreatDoor.RatW
open Go.RowKit
open DigM WideM WideV KM DigW WideW QuotW QuotM DecM FmtW SignM SignW
def T : Nat := 1329227995784915872903807060280344576
theorem T_M : T * T + T * T < M := by rw [M_two 512 rfl]; unfold T; decide +kernel
theorem T_TM : (T + 1) * T + T < M := by rw [M_two 512 rfl]; unfold T; decide +kernel
theorem T_lt {n : Nat} (h : n < T) : n < M := Nat.lt_trans h (by rw [M_two 512 rfl]; unfold T; decide +kernel)
theorem T_mul {a b : Nat} (ha : a < T) (hb : b < T) : a * b < T * T := by
  rcases Nat.eq_zero_or_pos b with rfl | h
  · rw [Nat.mul_zero]; unfold T; omega
  · exact Nat.lt_of_lt_of_le (Nat.mul_lt_mul_of_pos_right ha h) (Nat.mul_le_mul_left T (Nat.le_of_lt hb))
theorem bl_T {n : Nat} (h : bl n ≤ 120) : n < T := by
  have := bl_BL n
  have hp : 2 ^ bl n ≤ 2 ^ 120 := Nat.pow_le_pow_right (by omega) h
  have hT : T = 2 ^ 120 := by unfold T; decide +kernel
  rw [hT]
  exact Nat.lt_of_lt_of_le this.1 hp
theorem may_parts {s : Bool} {n d : Nat} (h : mayB s n d = true) : n < T ∧ d < T ∧ d ≠ 0 ∧ ng (sg s n) = s ∧ Nat.gcd n d = 1 := by
  unfold mayB smallB termsB at h
  rw [Bool.and_eq_true, decide_eq_true_eq, decide_eq_true_eq] at h
  obtain ⟨⟨h1, h2⟩, h3, h4, h5⟩ := h
  exact ⟨bl_T h1, bl_T h2, h3, by rw [ng_sg]; exact h4, h5⟩
theorem rv_nv {s : Bool} {n d : Nat} (h : ng (sg s n) = s) : rv s n d = rv (ng (sg s n)) (sg s n).natAbs d := by rw [h, sg_abs]
section
variable (s t : Bool) (a b d e : Nat) (ha : Hid (a < M)) (hb : Hid (b < M)) (hd : Hid (d < M)) (he : Hid (e < M))
include ha hb hd he
end
theorem floor_is (s : Bool) (n d : Nat) (hd : 0 < d) : sg (s != false) (ovq (s != false) n d) = sg s n / (d : Int) := by
  cases s
  · rfl
  · show sg true (ovq true n d) = sg true n / (d : Int)
    rw [sg_t, sg_t, RatM.floor_neg hd]
    unfold ovq
    congr 2
    by_cases h : n % d = 0
    · rw [if_neg (fun hh => hh.2 h), if_pos h]
    · rw [if_pos ⟨rfl, h⟩, if_neg h]
/-- may a part be asked for? -/
def partB (n k d : Int) : Bool := decide (0 ≤ n ∧ 0 ≤ k ∧ 0 < d ∧ k ≤ d)
theorem part_fits {n k : Nat} (hn : n < 9223372036854775808) (hk : k < 9223372036854775808) : n * k < M ∧ n < M ∧ k < M := by
  have h1 : n * k ≤ 9223372036854775808 * 9223372036854775808 := Nat.mul_le_mul (Nat.le_of_lt hn) (Nat.le_of_lt hk)
  have h2 : 9223372036854775808 * 9223372036854775808 < M := by rw [M_two 512 rfl]; decide +kernel
  have := @m_big
  omega
end Go.Proofs.YtacicfmalhhceaaGreatDoor.RatW

/- The document's own fractions (snicketref06): contracts over the translation. -/
namespace Go.Proofs.YtacicfmalhhceaaGreatDoor.RatW
open Go.RowKit
open DigM WideM WideV KM DigW WideW QuotW QuotM DecM FmtW SignM SignW
theorem terms_low {s : Bool} {n d : Nat} (hd : 0 < d) : (ng (sg s (n / Nat.gcd n d)) == s && eqB (sg s (n / Nat.gcd n d)).natAbs n && eqB (d / Nat.gcd n d) d) = termsB s n d := by
  rw [sg_abs, ng_sg]
  unfold termsB eqB
  rw [Bool.eq_iff_iff]
  simp only [Bool.and_eq_true, beq_iff_eq, decide_eq_true_eq]
  constructor
  · rintro ⟨⟨h1, h2⟩, h3⟩
    have hg : Nat.gcd n d = 1 := by
      have := Nat.div_mul_cancel (Nat.gcd_dvd_right n d)
      rw [h3] at this
      exact Nat.eq_of_mul_eq_mul_left hd (by rw [this, Nat.mul_one])
    rw [h2] at h1
    exact ⟨by omega, h1, hg⟩
  · rintro ⟨_, h1, h2⟩
    rw [h2, Nat.div_one, Nat.div_one]
    exact ⟨⟨h1, rfl⟩, rfl⟩
theorem dlen {B₀ : Nat} {v : Value} {ds : List Nat} {a : Nat} {w : World} (hO : Own B₀ w v ds) (hD : Hid (Digits32 a ds)) : Calls Tryz.prog 67 #[v] w (Ret (.int .i64 (bl a : Nat)) w) :=
  (len_any v ds w hO.rd hD.out.1 (by rw [hD.out.2.2]; omega)).mono fun e w'' ⟨k, he, hk, _, m, hw⟩ => by
    rw [hD.out.2.1] at hk
    exact ⟨by rw [he, bl_of hk], by rw [hw]; exact below_drewN (Below.refl _ _) m⟩
section
variable (s t : Bool) (a b d e : Nat) (ha : Hid (a < M)) (hb : Hid (b < M)) (hd : Hid (d < M)) (he : Hid (e < M))
include ha hb hd he
omit ha hb in
theorem den_fit (h : d * e < M) (w : World) : Calls Tryz.prog 75 #[iv false d, iv false e] w (Ret (.tuple #[iv false (d * e), .bool true]) w) := by
  have := rmul_any false false d e hd he w
  rw [sg_f, sg_f, ← Int.natCast_mul, fv_fit (by rw [Int.natAbs_natCast]; exact h)] at this
  unfold nv at this
  rwa [show ng ((d * e : Nat) : Int) = false from decide_eq_false (by omega), Int.natAbs_natCast] at this
end
end Go.Proofs.YtacicfmalhhceaaGreatDoor.RatW

/- The laws of layer 6: the layer's own example; the walk of RatioOf. -/
namespace Go.Proofs.YtacicfmalhhceaaGreatDoor.RatW
open Go.RowKit
open DigM WideM WideV KM DigW WideW QuotW QuotM DecM FmtW SignM SignW
def TrueAt6 (w : World) (e : Ending) (w' : World) : Prop := e = .returned (.bool true) ∧ Below w.heap.size w w'
theorem nv_pos (n : Nat) : nv (n : Int) = iv false n := by
  unfold nv
  rw [show ng (n : Int) = false from decide_eq_false (by omega), Int.natAbs_natCast]
theorem lowV_is (r : Bool) (a b : Nat) (ha : a < M) (hb : b < M) : ∃ p m y, lowV r a b = rv p m y ∧ Hid (m < M) ∧ Hid (y < M) :=
  ⟨_, _, _, rfl, Lib.hid (by rw [sg_abs]; exact Nat.lt_of_le_of_lt (Nat.div_le_self _ _) ha), Lib.hid (Nat.lt_of_le_of_lt (Nat.div_le_self _ _) hb)⟩
end Go.Proofs.YtacicfmalhhceaaGreatDoor.RatW

/- Structs by their cells: Ratio, Ratio*3, int*4. -/
namespace Go.Proofs.YtacicfmalhhceaaGreatDoor.RatW
open Go.RowKit
open WideM WideV KM WideW SignW
set_option maxRecDepth 100000 in
theorem readWide {H : Type} {enc : TypeId × Value → H} {w₀ : World} {base : Nat} {sp : Nat → Bool} {held : Bool} {l : List Value} (h : KM.Read Tryz.prog enc w₀ base sp held 24 l) : ∃ n : Nat, n < M ∧ l = (cells 8 n).toList := by
  obtain ⟨n, x, h⟩ := h
  have hc1 : Tryz.prog.cellsOf 24 = 8 := by kernel_rfl
  obtain ⟨zs, hzs, hzl, hw⟩ := SignW.arr_ints Tryz.underlying24 Tryz.underlying22 (by kernel_rfl) hc1 h
  obtain ⟨a, ha, ea⟩ := WideA.wide_of hzl hw
  exact ⟨a, ha, by rw [← ea, hzs]⟩
set_option maxRecDepth 100000 in
theorem readInt {H : Type} {enc : TypeId × Value → H} {w₀ : World} {base : Nat} {sp : Nat → Bool} {held : Bool} {l : List Value} (h : KM.Read Tryz.prog enc w₀ base sp held 26 l) : ∃ (s : Bool) (n : Nat), n < M ∧ l = (ic s n).toList := by
  obtain ⟨hl, hs⟩ := KM.read_struct [(4, 0, 1), (24, 1, 8)] 9 (by kernel_rfl) (by kernel_rfl) (by kernel_rfl) h
  obtain ⟨s, e0⟩ := KM.read_bool Tryz.underlying4 (hs 0 _ _ _ rfl)
  obtain ⟨n, b, e1⟩ := readWide (hs 1 _ _ _ rfl)
  exact ⟨s, n, b, KM.glue0 [(1, [.bool s]), (8, (cells 8 n).toList)] ⟨e0, e1, hl⟩ (by kernel_rfl)⟩
def a3rc (s0 : Bool) (n0 : Nat) (d0 : Nat) (s1 : Bool) (n1 : Nat) (d1 : Nat) (s2 : Bool) (n2 : Nat) (d2 : Nat) : Array Value := #[.bool s0, .int .u64 (wd n0 0 : Nat), .int .u64 (wd n0 1 : Nat), .int .u64 (wd n0 2 : Nat), .int .u64 (wd n0 3 : Nat), .int .u64 (wd n0 4 : Nat), .int .u64 (wd n0 5 : Nat), .int .u64 (wd n0 6 : Nat), .int .u64 (wd n0 7 : Nat), .int .u64 (wd d0 0 : Nat), .int .u64 (wd d0 1 : Nat), .int .u64 (wd d0 2 : Nat), .int .u64 (wd d0 3 : Nat), .int .u64 (wd d0 4 : Nat), .int .u64 (wd d0 5 : Nat), .int .u64 (wd d0 6 : Nat), .int .u64 (wd d0 7 : Nat), .bool s1, .int .u64 (wd n1 0 : Nat), .int .u64 (wd n1 1 : Nat), .int .u64 (wd n1 2 : Nat), .int .u64 (wd n1 3 : Nat), .int .u64 (wd n1 4 : Nat), .int .u64 (wd n1 5 : Nat), .int .u64 (wd n1 6 : Nat), .int .u64 (wd n1 7 : Nat), .int .u64 (wd d1 0 : Nat), .int .u64 (wd d1 1 : Nat), .int .u64 (wd d1 2 : Nat), .int .u64 (wd d1 3 : Nat), .int .u64 (wd d1 4 : Nat), .int .u64 (wd d1 5 : Nat), .int .u64 (wd d1 6 : Nat), .int .u64 (wd d1 7 : Nat), .bool s2, .int .u64 (wd n2 0 : Nat), .int .u64 (wd n2 1 : Nat), .int .u64 (wd n2 2 : Nat), .int .u64 (wd n2 3 : Nat), .int .u64 (wd n2 4 : Nat), .int .u64 (wd n2 5 : Nat), .int .u64 (wd n2 6 : Nat), .int .u64 (wd n2 7 : Nat), .int .u64 (wd d2 0 : Nat), .int .u64 (wd d2 1 : Nat), .int .u64 (wd d2 2 : Nat), .int .u64 (wd d2 3 : Nat), .int .u64 (wd d2 4 : Nat), .int .u64 (wd d2 5 : Nat), .int .u64 (wd d2 6 : Nat), .int .u64 (wd d2 7 : Nat)]
set_option maxRecDepth 100000 in
set_option maxRecDepth 100000 in
instance partRatio3_0_0Int (s0 : Bool) (n0 : Nat) (d0 : Nat) (s1 : Bool) (n1 : Nat) (d1 : Nat) (s2 : Bool) (n2 : Nat) (d2 : Nat) : Part Tryz.prog 26 (a3rc s0 n0 d0 s1 n1 d1 s2 n2 d2) 0 (ic s0 n0) := Part.of (rowI _ _) (by kernel_rfl)
set_option maxRecDepth 100000 in
set_option maxRecDepth 100000 in
instance cellRatio3_0_0 (s0 : Bool) (n0 : Nat) (d0 : Nat) (s1 : Bool) (n1 : Nat) (d1 : Nat) (s2 : Bool) (n2 : Nat) (d2 : Nat) : CellV Tryz.prog 4 (a3rc s0 n0 d0 s1 n1 d1 s2 n2 d2) 0 (.bool s0) := ⟨⟨by kernel_rfl⟩, rfl⟩
set_option maxRecDepth 100000 in
@[simp] theorem a3rc_0 (s0 : Bool) (n0 : Nat) (d0 : Nat) (s1 : Bool) (n1 : Nat) (d1 : Nat) (s2 : Bool) (n2 : Nat) (d2 : Nat) : (a3rc s0 n0 d0 s1 n1 d1 s2 n2 d2)[0]? = some (.bool s0) := rfl
set_option maxRecDepth 100000 in
set_option maxRecDepth 100000 in
instance partRatio3_0_1Wide (s0 : Bool) (n0 : Nat) (d0 : Nat) (s1 : Bool) (n1 : Nat) (d1 : Nat) (s2 : Bool) (n2 : Nat) (d2 : Nat) : Part Tryz.prog 24 (a3rc s0 n0 d0 s1 n1 d1 s2 n2 d2) 1 (cells 8 n0) := Part.of (by rw [cells_size]; exact rowW) (by kernel_rfl)
set_option maxRecDepth 100000 in
set_option maxRecDepth 100000 in
instance partRatio3_0_9Wide (s0 : Bool) (n0 : Nat) (d0 : Nat) (s1 : Bool) (n1 : Nat) (d1 : Nat) (s2 : Bool) (n2 : Nat) (d2 : Nat) : Part Tryz.prog 24 (a3rc s0 n0 d0 s1 n1 d1 s2 n2 d2) 9 (cells 8 d0) := Part.of (by rw [cells_size]; exact rowW) (by kernel_rfl)
set_option maxRecDepth 100000 in
set_option maxRecDepth 100000 in
instance partRatio3_1_0Int (s0 : Bool) (n0 : Nat) (d0 : Nat) (s1 : Bool) (n1 : Nat) (d1 : Nat) (s2 : Bool) (n2 : Nat) (d2 : Nat) : Part Tryz.prog 26 (a3rc s0 n0 d0 s1 n1 d1 s2 n2 d2) 17 (ic s1 n1) := Part.of (rowI _ _) (by kernel_rfl)
set_option maxRecDepth 100000 in
set_option maxRecDepth 100000 in
instance cellRatio3_1_0 (s0 : Bool) (n0 : Nat) (d0 : Nat) (s1 : Bool) (n1 : Nat) (d1 : Nat) (s2 : Bool) (n2 : Nat) (d2 : Nat) : CellV Tryz.prog 4 (a3rc s0 n0 d0 s1 n1 d1 s2 n2 d2) 17 (.bool s1) := ⟨⟨by kernel_rfl⟩, rfl⟩
set_option maxRecDepth 100000 in
@[simp] theorem a3rc_17 (s0 : Bool) (n0 : Nat) (d0 : Nat) (s1 : Bool) (n1 : Nat) (d1 : Nat) (s2 : Bool) (n2 : Nat) (d2 : Nat) : (a3rc s0 n0 d0 s1 n1 d1 s2 n2 d2)[17]? = some (.bool s1) := rfl
set_option maxRecDepth 100000 in
set_option maxRecDepth 100000 in
instance partRatio3_1_1Wide (s0 : Bool) (n0 : Nat) (d0 : Nat) (s1 : Bool) (n1 : Nat) (d1 : Nat) (s2 : Bool) (n2 : Nat) (d2 : Nat) : Part Tryz.prog 24 (a3rc s0 n0 d0 s1 n1 d1 s2 n2 d2) 18 (cells 8 n1) := Part.of (by rw [cells_size]; exact rowW) (by kernel_rfl)
set_option maxRecDepth 100000 in
set_option maxRecDepth 100000 in
instance partRatio3_1_9Wide (s0 : Bool) (n0 : Nat) (d0 : Nat) (s1 : Bool) (n1 : Nat) (d1 : Nat) (s2 : Bool) (n2 : Nat) (d2 : Nat) : Part Tryz.prog 24 (a3rc s0 n0 d0 s1 n1 d1 s2 n2 d2) 26 (cells 8 d1) := Part.of (by rw [cells_size]; exact rowW) (by kernel_rfl)
set_option maxRecDepth 100000 in
set_option maxRecDepth 100000 in
instance partRatio3_2_0Int (s0 : Bool) (n0 : Nat) (d0 : Nat) (s1 : Bool) (n1 : Nat) (d1 : Nat) (s2 : Bool) (n2 : Nat) (d2 : Nat) : Part Tryz.prog 26 (a3rc s0 n0 d0 s1 n1 d1 s2 n2 d2) 34 (ic s2 n2) := Part.of (rowI _ _) (by kernel_rfl)
set_option maxRecDepth 100000 in
set_option maxRecDepth 100000 in
instance cellRatio3_2_0 (s0 : Bool) (n0 : Nat) (d0 : Nat) (s1 : Bool) (n1 : Nat) (d1 : Nat) (s2 : Bool) (n2 : Nat) (d2 : Nat) : CellV Tryz.prog 4 (a3rc s0 n0 d0 s1 n1 d1 s2 n2 d2) 34 (.bool s2) := ⟨⟨by kernel_rfl⟩, rfl⟩
set_option maxRecDepth 100000 in
@[simp] theorem a3rc_34 (s0 : Bool) (n0 : Nat) (d0 : Nat) (s1 : Bool) (n1 : Nat) (d1 : Nat) (s2 : Bool) (n2 : Nat) (d2 : Nat) : (a3rc s0 n0 d0 s1 n1 d1 s2 n2 d2)[34]? = some (.bool s2) := rfl
set_option maxRecDepth 100000 in
set_option maxRecDepth 100000 in
instance partRatio3_2_1Wide (s0 : Bool) (n0 : Nat) (d0 : Nat) (s1 : Bool) (n1 : Nat) (d1 : Nat) (s2 : Bool) (n2 : Nat) (d2 : Nat) : Part Tryz.prog 24 (a3rc s0 n0 d0 s1 n1 d1 s2 n2 d2) 35 (cells 8 n2) := Part.of (by rw [cells_size]; exact rowW) (by kernel_rfl)
set_option maxRecDepth 100000 in
set_option maxRecDepth 100000 in
instance partRatio3_2_9Wide (s0 : Bool) (n0 : Nat) (d0 : Nat) (s1 : Bool) (n1 : Nat) (d1 : Nat) (s2 : Bool) (n2 : Nat) (d2 : Nat) : Part Tryz.prog 24 (a3rc s0 n0 d0 s1 n1 d1 s2 n2 d2) 43 (cells 8 d2) := Part.of (by rw [cells_size]; exact rowW) (by kernel_rfl)
def a4ic (x0 : Int) (x1 : Int) (x2 : Int) (x3 : Int) : Array Value := #[.int .i64 x0, .int .i64 x1, .int .i64 x2, .int .i64 x3]
set_option maxRecDepth 100000 in
set_option maxRecDepth 100000 in
instance cellint4_0 (x0 : Int) (x1 : Int) (x2 : Int) (x3 : Int) : CellV Tryz.prog 3 (a4ic x0 x1 x2 x3) 0 (.int .i64 x0) := ⟨⟨by kernel_rfl⟩, rfl⟩
set_option maxRecDepth 100000 in
@[simp] theorem a4ic_0 (x0 : Int) (x1 : Int) (x2 : Int) (x3 : Int) : (a4ic x0 x1 x2 x3)[0]? = some (.int .i64 x0) := rfl
set_option maxRecDepth 100000 in
set_option maxRecDepth 100000 in
instance cellint4_1 (x0 : Int) (x1 : Int) (x2 : Int) (x3 : Int) : CellV Tryz.prog 3 (a4ic x0 x1 x2 x3) 1 (.int .i64 x1) := ⟨⟨by kernel_rfl⟩, rfl⟩
set_option maxRecDepth 100000 in
@[simp] theorem a4ic_1 (x0 : Int) (x1 : Int) (x2 : Int) (x3 : Int) : (a4ic x0 x1 x2 x3)[1]? = some (.int .i64 x1) := rfl
set_option maxRecDepth 100000 in
set_option maxRecDepth 100000 in
instance cellint4_2 (x0 : Int) (x1 : Int) (x2 : Int) (x3 : Int) : CellV Tryz.prog 3 (a4ic x0 x1 x2 x3) 2 (.int .i64 x2) := ⟨⟨by kernel_rfl⟩, rfl⟩
set_option maxRecDepth 100000 in
@[simp] theorem a4ic_2 (x0 : Int) (x1 : Int) (x2 : Int) (x3 : Int) : (a4ic x0 x1 x2 x3)[2]? = some (.int .i64 x2) := rfl
set_option maxRecDepth 100000 in
set_option maxRecDepth 100000 in
instance cellint4_3 (x0 : Int) (x1 : Int) (x2 : Int) (x3 : Int) : CellV Tryz.prog 3 (a4ic x0 x1 x2 x3) 3 (.int .i64 x3) := ⟨⟨by kernel_rfl⟩, rfl⟩
set_option maxRecDepth 100000 in
@[simp] theorem a4ic_3 (x0 : Int) (x1 : Int) (x2 : Int) (x3 : Int) : (a4ic x0 x1 x2 x3)[3]? = some (.int .i64 x3) := rfl
end Go.Proofs.YtacicfmalhhceaaGreatDoor.RatW

