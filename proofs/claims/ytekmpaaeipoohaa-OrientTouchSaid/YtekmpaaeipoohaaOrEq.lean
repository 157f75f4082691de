/-
  On which side points lie: what is the same as what.
-/
import Derived.Test.YtekmpaaeipoohaaOrFn
namespace Go.Proofs.Ytekmpaaeipoohaa.OrW
open Go.RowKit
open KM PtM OrM PtW
theorem line_iff {x y z u : Int} : lineP x y z u = true ↔ mayP x y = true ∧ mayP z u = true ∧ ¬(x = z ∧ y = u) := by
  unfold lineP eqP
  rw [Bool.and_eq_true, Bool.and_eq_true, Bool.not_eq_true', ← Bool.not_eq_true, Bool.and_eq_true, beq_iff_eq, beq_iff_eq, and_assoc]
theorem crossV_is {x y z u s t : Int} (h1 : mayP x y = true) (h2 : mayP z u = true) (h3 : mayP s t = true) : crossV x y z u s t = crs x y z u s t := by
  unfold crossV; rw [h1, h2, h3]; rfl
theorem dotV_is {x y z u s t : Int} (h1 : mayP x y = true) (h2 : mayP z u = true) (h3 : mayP s t = true) : dotV x y z u s t = dts x y z u s t := by
  unfold dotV; rw [h1, h2, h3]; rfl
theorem sgn_zero {n : Int} : sgn n = 0 ↔ n = 0 := by unfold sgn cmpV; split <;> (try split) <;> omega
theorem sgn_pos {n : Int} : sgn n = 1 ↔ 0 < n := by unfold sgn cmpV; split <;> (try split) <;> omega
theorem sgn_neg {n : Int} : sgn n = -1 ↔ n < 0 := by unfold sgn cmpV; split <;> (try split) <;> omega
theorem sgn_flip (n : Int) : sgn (-n) = -sgn n := by unfold sgn cmpV; split <;> split <;> (try split) <;> (try split) <;> omega
theorem cmp_sgn (a b : Int) : cmpV a b = sgn (a - b) := by unfold sgn cmpV; split <;> split <;> (try split) <;> (try split) <;> omega
theorem onV_iff {x y z u s t : Int} : onV x y z u s t = true ↔ lineP x y z u = true ∧ mayP s t = true ∧ onZ x y z u s t := by
  unfold onV sideV onZ
  rw [Bool.and_eq_true, Bool.and_eq_true, Bool.and_eq_true, beq_iff_eq, decide_eq_true_eq, sgn_zero, and_assoc]
  constructor
  · rintro ⟨h1, h2, h3, h4⟩
    obtain ⟨a, b, _⟩ := line_iff.1 h1
    rw [crossV_is a b h2] at h3
    rw [dotV_is h2 a b] at h4
    exact ⟨h1, h2, h3, h4⟩
  · rintro ⟨h1, h2, h3, h4⟩
    obtain ⟨a, b, _⟩ := line_iff.1 h1
    rw [crossV_is a b h2, dotV_is h2 a b]
    exact ⟨h1, h2, h3, h4⟩
/-- as the document tells whether a point is on a line -/
def onR (x y z u s t : Int) : Bool := lineP x y z u && mayP s t && (crossV x y z u s t == 0 && decide (0 ≤ dotV x y z u s t) && decide (dotV x y z u s t ≤ dotV x y z u z u))
theorem on_eq (x y z u s t : Int) : onR x y z u s t = onV x y z u s t := by
  rw [Bool.eq_iff_iff, onV_iff]
  unfold onR
  rw [Bool.and_eq_true, Bool.and_eq_true, Bool.and_eq_true, Bool.and_eq_true, beq_iff_eq, decide_eq_true_eq, decide_eq_true_eq, and_assoc, and_assoc]
  constructor
  · rintro ⟨h1, h2, h3, h4, h5⟩
    obtain ⟨a, b, c⟩ := line_iff.1 h1
    rw [crossV_is a b h2] at h3
    rw [dotV_is a b h2] at h4 h5
    rw [dotV_is a b b] at h5
    exact ⟨h1, h2, h3, (on_way c h3).2 ⟨h4, h5⟩⟩
  · rintro ⟨h1, h2, h3, h4⟩
    obtain ⟨a, b, c⟩ := line_iff.1 h1
    rw [crossV_is a b h2, dotV_is a b h2, dotV_is a b b]
    obtain ⟨h5, h6⟩ := (on_way c h3).1 h4
    exact ⟨h1, h2, h3, h5, h6⟩
/-- ends on both sides -/
def oppV (a b c d : Int) : Bool := a != 0 && b != 0 && c != 0 && d != 0 && a != b && c != d
/-- as the document tells whether lines touch -/
def touchV (x y z u s t p q : Int) : Bool := lineP x y z u && lineP s t p q && (onV x y z u s t || onV x y z u p q || onV s t p q x y || onV s t p q z u ||
  oppV (sideV x y z u s t) (sideV x y z u p q) (sideV s t p q x y) (sideV s t p q z u))
def touchZ (x y z u s t p q : Int) : Prop := onZ x y z u s t ∨ onZ x y z u p q ∨ onZ s t p q x y ∨ onZ s t p q z u ∨ (crs x y z u s t * crs x y z u p q < 0 ∧ crs s t p q x y * crs s t p q z u < 0)
theorem sgn_cases (n : Int) : (n < 0 ∧ sgn n = -1) ∨ (n = 0 ∧ sgn n = 0) ∨ (0 < n ∧ sgn n = 1) := by
  unfold sgn cmpV; split <;> (try split) <;> omega
theorem opp_iff (a b c d : Int) : oppV (sgn a) (sgn b) (sgn c) (sgn d) = true ↔ a * b < 0 ∧ c * d < 0 := by
  unfold oppV
  rw [(mul_sg a b).2.1, (mul_sg c d).2.1]
  simp only [Bool.and_eq_true, bne_iff_ne, ne_eq]
  have h1 := sgn_cases a
  have h2 := sgn_cases b
  have h3 := sgn_cases c
  have h4 := sgn_cases d
  generalize sgn a = A at *
  generalize sgn b = B at *
  generalize sgn c = C at *
  generalize sgn d = D at *
  omega
theorem touchV_iff {x y z u s t p q : Int} : touchV x y z u s t p q = true ↔ lineP x y z u = true ∧ lineP s t p q = true ∧ touchZ x y z u s t p q := by
  unfold touchV sideV touchZ
  rw [Bool.and_eq_true, Bool.and_eq_true, Bool.or_eq_true, Bool.or_eq_true, Bool.or_eq_true, Bool.or_eq_true, onV_iff, onV_iff, onV_iff, onV_iff, opp_iff, and_assoc]
  constructor
  · rintro ⟨h1, h2, h⟩
    obtain ⟨a1, b1, c1⟩ := line_iff.1 h1
    obtain ⟨a2, b2, c2⟩ := line_iff.1 h2
    rw [crossV_is a1 b1 a2, crossV_is a1 b1 b2, crossV_is a2 b2 a1, crossV_is a2 b2 b1] at h
    refine ⟨h1, h2, ?_⟩
    rcases h with (((h | h) | h) | h) | h
    · exact .inl h.2.2
    · exact .inr (.inl h.2.2)
    · exact .inr (.inr (.inl h.2.2))
    · exact .inr (.inr (.inr (.inl h.2.2)))
    · exact .inr (.inr (.inr (.inr h)))
  · rintro ⟨h1, h2, h⟩
    obtain ⟨a1, b1, c1⟩ := line_iff.1 h1
    obtain ⟨a2, b2, c2⟩ := line_iff.1 h2
    rw [crossV_is a1 b1 a2, crossV_is a1 b1 b2, crossV_is a2 b2 a1, crossV_is a2 b2 b1]
    refine ⟨h1, h2, ?_⟩
    rcases h with h | h | h | h | h
    · exact .inl (.inl (.inl (.inl ⟨h1, a2, h⟩)))
    · exact .inl (.inl (.inl (.inr ⟨h1, b2, h⟩)))
    · exact .inl (.inl (.inr ⟨h2, a1, h⟩))
    · exact .inl (.inr ⟨h2, b1, h⟩)
    · exact .inr h
theorem parts_iff (a b : Int) : decide (0 < sgn a * sgn b) = true ↔ 0 < a * b := by
  rw [decide_eq_true_eq, (mul_sg a b).1, (mul_sg (sgn a) (sgn b)).1]
  have h1 := sgn_cases a
  have h2 := sgn_cases b
  generalize sgn a = A at *
  generalize sgn b = B at *
  omega
theorem apart_iff (x y z u s t p q : Int) : apartB x y z u s t p q = true ↔ apt x y z u s t p q := by
  unfold apartB apt
  rw [Bool.or_eq_true, Bool.or_eq_true, Bool.or_eq_true, decide_eq_true_eq, decide_eq_true_eq, decide_eq_true_eq, decide_eq_true_eq, or_assoc, or_assoc]
theorem touch_eq (x y z u s t p q : Int) : touchW x y z u s t p q = touchV x y z u s t p q := by
  rw [Bool.eq_iff_iff, touchV_iff]
  unfold touchW apartP partsV sideV
  constructor
  · intro h
    rw [Bool.and_eq_true, Bool.and_eq_true, Bool.and_eq_true, Bool.and_eq_true, Bool.not_eq_true', Bool.not_eq_true', Bool.not_eq_true', ← Bool.not_eq_true, ← Bool.not_eq_true, ← Bool.not_eq_true, parts_iff, parts_iff] at h
    obtain ⟨⟨⟨⟨h1, h2⟩, h3⟩, h4⟩, h5⟩ := h
    rw [h1, h2, Bool.true_and, Bool.true_and, apart_iff] at h3
    obtain ⟨a1, b1, c1⟩ := line_iff.1 h1
    obtain ⟨a2, b2, c2⟩ := line_iff.1 h2
    rw [crossV_is a1 b1 a2, crossV_is a1 b1 b2] at h4
    rw [crossV_is a2 b2 a1, crossV_is a2 b2 b1] at h5
    exact ⟨h1, h2, (touch_way c1 c2).1 ⟨h3, by omega, by omega⟩⟩
  · rintro ⟨h1, h2, h⟩
    obtain ⟨a1, b1, c1⟩ := line_iff.1 h1
    obtain ⟨a2, b2, c2⟩ := line_iff.1 h2
    obtain ⟨h3, h4, h5⟩ := (touch_way c1 c2).2 h
    rw [Bool.and_eq_true, Bool.and_eq_true, Bool.and_eq_true, Bool.and_eq_true, Bool.not_eq_true', Bool.not_eq_true', Bool.not_eq_true', ← Bool.not_eq_true, ← Bool.not_eq_true, ← Bool.not_eq_true, parts_iff, parts_iff]
    rw [h1, h2, Bool.true_and, Bool.true_and, apart_iff]
    rw [crossV_is a1 b1 a2, crossV_is a1 b1 b2, crossV_is a2 b2 a1, crossV_is a2 b2 b1]
    exact ⟨⟨⟨⟨rfl, rfl⟩, h3⟩, by omega⟩, by omega⟩
theorem onZ_back (x y z u s t : Int) : onZ z u x y s t ↔ onZ x y z u s t := by
  unfold onZ
  rw [crs_swap x y z u s t, dts_comm s t x y z u]
  omega
theorem touchZ_comm (x y z u s t p q : Int) : touchZ s t p q x y z u ↔ touchZ x y z u s t p q := by
  unfold touchZ
  constructor
  all_goals (
    rintro (h | h | h | h | ⟨h, h'⟩)
    · exact .inr (.inr (.inl h))
    · exact .inr (.inr (.inr (.inl h)))
    · exact .inl h
    · exact .inr (.inl h)
    · exact .inr (.inr (.inr (.inr ⟨h', h⟩))))
theorem touchZ_back (x y z u s t p q : Int) : touchZ z u x y s t p q ↔ touchZ x y z u s t p q := by
  unfold touchZ
  rw [onZ_back x y z u s t, onZ_back x y z u p q, crs_swap x y z u s t, crs_swap x y z u p q, Int.neg_mul_neg, Int.mul_comm (crs s t p q z u)]
  constructor
  all_goals (
    rintro (h | h | h | h | h)
    · exact .inl h
    · exact .inr (.inl h)
    · exact .inr (.inr (.inr (.inl h)))
    · exact .inr (.inr (.inl h))
    · exact .inr (.inr (.inr (.inr h))))
theorem line_back (x y z u : Int) : lineP z u x y = lineP x y z u := by
  rw [Bool.eq_iff_iff, line_iff, line_iff]
  constructor
  all_goals (rintro ⟨h1, h2, h3⟩; exact ⟨h2, h1, by omega⟩)
theorem touch_comm (x y z u s t p q : Int) : touchV s t p q x y z u = touchV x y z u s t p q := by
  rw [Bool.eq_iff_iff, touchV_iff, touchV_iff, touchZ_comm]
  exact ⟨fun ⟨a, b, c⟩ => ⟨b, a, c⟩, fun ⟨a, b, c⟩ => ⟨b, a, c⟩⟩
theorem touch_back (x y z u s t p q : Int) : touchV z u x y s t p q = touchV x y z u s t p q := by
  rw [Bool.eq_iff_iff, touchV_iff, touchV_iff, touchZ_back, line_back]
theorem on_back (x y z u s t : Int) : onV z u x y s t = onV x y z u s t := by
  rw [Bool.eq_iff_iff, onV_iff, onV_iff, onZ_back, line_back]
theorem alongV_iff {x y z u s t p q : Int} : alongV x y z u s t p q = true ↔ lineP x y z u = true ∧ lineP s t p q = true ∧ crs x y z u s t = 0 ∧ crs x y z u p q = 0 := by
  unfold alongV sideV
  rw [Bool.and_eq_true, Bool.and_eq_true, Bool.and_eq_true, beq_iff_eq, beq_iff_eq, sgn_zero, sgn_zero, and_assoc, and_assoc]
  constructor
  all_goals (
    rintro ⟨h1, h2, h⟩
    obtain ⟨a1, b1, c1⟩ := line_iff.1 h1
    obtain ⟨a2, b2, c2⟩ := line_iff.1 h2
    first | rw [crossV_is a1 b1 a2, crossV_is a1 b1 b2] at h | rw [crossV_is a1 b1 a2, crossV_is a1 b1 b2]
    exact ⟨h1, h2, h⟩)
/-- all ends on the straight line of one are on that of the other one -/
theorem flat {x y z u s t p q : Int} (hd : ¬(x = z ∧ y = u)) (a : crs x y z u s t = 0) (b : crs x y z u p q = 0) : crs s t p q x y = 0 ∧ crs s t p q z u = 0 := by
  have hD := len_pos hd
  have e : len x y z u * crs s t p q x y = 0 := by
    unfold crs at a b ⊢; unfold len dts; grind
  have e' : len x y z u * crs s t p q z u = 0 := by
    unfold crs at a b ⊢; unfold len dts; grind
  exact ⟨((@pos_mul _ (crs s t p q x y) hD).2.2).1 e, ((@pos_mul _ (crs s t p q z u) hD).2.2).1 e'⟩
theorem along_comm (x y z u s t p q : Int) : alongV s t p q x y z u = alongV x y z u s t p q := by
  rw [Bool.eq_iff_iff, alongV_iff, alongV_iff]
  constructor
  all_goals (
    rintro ⟨h1, h2, h3, h4⟩
    exact ⟨h2, h1, flat (line_iff.1 h1).2.2 h3 h4⟩)
/-- as the document tells which comes ahead -/
def orderR (x y z u s t p q : Int) : Int := if (onV x y z u s t && onV x y z u p q) = true then sgn (dotV x y z u s t - dotV x y z u p q) else 0
theorem order_eq (x y z u s t p q : Int) : orderR x y z u s t p q = orderV x y z u s t p q := by
  unfold orderR orderV
  cases h : onV x y z u s t && onV x y z u p q with
  | false => rw [if_neg (by decide), if_neg (by decide)]
  | true =>
    rw [if_pos rfl, if_pos rfl]
    rw [Bool.and_eq_true, onV_iff, onV_iff] at h
    obtain ⟨⟨h1, h2, h3, h4⟩, _, h5, h6, h7⟩ := h
    obtain ⟨a, b, c⟩ := line_iff.1 h1
    rw [dotV_is a b h2, dotV_is a b h5, dotV_is a h2 h2, dotV_is a h5 h5]
    have := far_way c h3 h4 h6 h7
    unfold len at this
    generalize dts x y s t s t = e1 at *
    generalize dts x y p q p q = e2 at *
    generalize dts x y z u s t = e3 at *
    generalize dts x y z u p q = e4 at *
    clear h1 h2 h3 h4 h5 h6 h7 a b c
    unfold sgn cmpV
    split <;> split <;> (try split) <;> (try split) <;> omega
theorem order_back (x y z u s t p q : Int) : orderV z u x y s t p q = -orderV x y z u s t p q := by
  rw [← order_eq, ← order_eq]
  unfold orderR
  rw [on_back x y z u s t, on_back x y z u p q]
  cases h : onV x y z u s t && onV x y z u p q with
  | false => rw [if_neg (by decide), if_neg (by decide)]; rfl
  | true =>
    rw [if_pos rfl, if_pos rfl]
    rw [Bool.and_eq_true, onV_iff, onV_iff] at h
    obtain ⟨⟨h1, h2, h3, h4⟩, _, h5, h6, h7⟩ := h
    obtain ⟨a, b, c⟩ := line_iff.1 h1
    rw [dotV_is a b h2, dotV_is a b h5, dotV_is b a h2, dotV_is b a h5, dts_back x y z u s t, dts_back x y z u p q, ← sgn_flip]
    congr 1
    omega
theorem order_bd (x y z u s t p q : Int) : -1 ≤ orderV x y z u s t p q ∧ orderV x y z u s t p q ≤ 1 := by
  unfold orderV cmpV
  split <;> (try split) <;> (try split) <;> omega
/-- a point on a line: as an end of any line it touches it -/
theorem on_touch {x y z u s t p q : Int} (h : onV x y z u s t = true) (h' : lineP s t p q = true) : touchV x y z u s t p q = true := by
  rw [touchV_iff]
  obtain ⟨h1, _, h3⟩ := onV_iff.1 h
  exact ⟨h1, h', .inl h3⟩
theorem on_side {x y z u s t : Int} (h : onV x y z u s t = true) : sideV x y z u s t = 0 := by
  obtain ⟨h1, h2, h3, _⟩ := onV_iff.1 h
  obtain ⟨a, b, c⟩ := line_iff.1 h1
  unfold sideV
  rw [crossV_is a b h2, h3]
  rfl
section
variable (k : Nat)
theorem mayT {x y : Int} (h : mayP x y = true) : mayP (tx k x y) (ty k x y) = true := by
  obtain ⟨⟨a1, a2⟩, a3, a4⟩ := mayP_iff.1 h
  exact mayP_iff.2 (ty_bd a1 a2 a3 a4)
theorem tx_inj {x y z u : Int} (h : tx k x y = tx k z u ∧ ty k x y = ty k z u) : x = z ∧ y = u := by
  obtain ⟨h1, h2⟩ := h
  match k, h1, h2 with
  | 0, h1, h2 => exact ⟨h1, h2⟩
  | 1, h1, h2 => replace h1 : -y = -u := h1; replace h2 : x = z := h2; omega
  | 2, h1, h2 => replace h1 : -x = -z := h1; replace h2 : -y = -u := h2; omega
  | _ + 3, h1, h2 => replace h1 : y = u := h1; replace h2 : -x = -z := h2; omega
theorem lineT {x y z u : Int} (h : lineP x y z u = true) : lineP (tx k x y) (ty k x y) (tx k z u) (ty k z u) = true := by
  obtain ⟨a, b, c⟩ := line_iff.1 h
  exact line_iff.2 ⟨mayT k a, mayT k b, fun e => c (tx_inj k e)⟩
theorem onZT (x y z u s t : Int) : onZ (tx k x y) (ty k x y) (tx k z u) (ty k z u) (tx k s t) (ty k s t) ↔ onZ x y z u s t := by
  unfold onZ; rw [crs_turned, dts_turned]
theorem touchT {x y z u s t p q : Int} (h1 : lineP x y z u = true) (h2 : lineP s t p q = true) :
    touchV (tx k x y) (ty k x y) (tx k z u) (ty k z u) (tx k s t) (ty k s t) (tx k p q) (ty k p q) = touchV x y z u s t p q := by
  rw [Bool.eq_iff_iff, touchV_iff, touchV_iff, lineT k h1, lineT k h2, h1, h2]
  unfold touchZ
  rw [onZT, onZT, onZT, onZT, crs_turned, crs_turned, crs_turned, crs_turned]
theorem alongT {x y z u s t p q : Int} (h1 : lineP x y z u = true) (h2 : lineP s t p q = true) :
    alongV (tx k x y) (ty k x y) (tx k z u) (ty k z u) (tx k s t) (ty k s t) (tx k p q) (ty k p q) = alongV x y z u s t p q := by
  rw [Bool.eq_iff_iff, alongV_iff, alongV_iff, lineT k h1, lineT k h2, h1, h2, crs_turned, crs_turned]
theorem sideT {x y z u s t : Int} (h1 : mayP x y = true) (h2 : mayP z u = true) (h3 : mayP s t = true) :
    sideV (tx k x y) (ty k x y) (tx k z u) (ty k z u) (tx k s t) (ty k s t) = sideV x y z u s t := by
  unfold sideV
  rw [crossV_is (mayT k h1) (mayT k h2) (mayT k h3), crossV_is h1 h2 h3, crs_turned]
theorem onT {x y z u s t : Int} (h1 : lineP x y z u = true) (h3 : mayP s t = true) :
    onV (tx k x y) (ty k x y) (tx k z u) (ty k z u) (tx k s t) (ty k s t) = onV x y z u s t := by
  rw [Bool.eq_iff_iff, onV_iff, onV_iff, lineT k h1, mayT k h3, h1, h3, onZT]
theorem orderT {x y z u s t p q : Int} (h1 : lineP x y z u = true) (h2 : mayP s t = true) (h3 : mayP p q = true) :
    orderV (tx k x y) (ty k x y) (tx k z u) (ty k z u) (tx k s t) (ty k s t) (tx k p q) (ty k p q) = orderV x y z u s t p q := by
  obtain ⟨a, b, _⟩ := line_iff.1 h1
  unfold orderV
  rw [onT k h1 h2, onT k h1 h3, dotV_is (mayT k a) (mayT k h2) (mayT k h2), dotV_is (mayT k a) (mayT k h3) (mayT k h3), dotV_is a h2 h2, dotV_is a h3 h3, dts_turned, dts_turned]
end
end Go.Proofs.Ytekmpaaeipoohaa.OrW
