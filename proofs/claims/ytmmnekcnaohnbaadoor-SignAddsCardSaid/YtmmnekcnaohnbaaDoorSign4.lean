/-
  package sign: as an int, as a text: contracts over the translation.
-/
import Derived.Test.YtmmnekcnaohnbaaDoorSign3
namespace Go.Proofs.YtmmnekcnaohnbaaDoor.SignW
open Go.RowKit
open DigM WideM WideV KM DigW WideW QuotW QuotM DecM FmtW SignM
open Go.Lib (decDigits nDigits)
theorem exec_neW {a : Act} {d : Option Tmp} {ty : TypeId} {ps : String} {af : Array Edge} {gd : Option (Nat × Bool)} {x y : Operand} {m n : Nat} {b : Bool} (hx : a.eval x = .agg (cells 8 m)) (hy : a.eval y = .agg (cells 8 n)) (hm : m < M) (hn : n < M) (hb : eqB m n = b) (w : World) :
    (execOp a.eval ⟨d, .binOp .neq 24 x y 24, ty, ps, af, gd⟩).run Tryd.prog w = .ok (.value (.bool (!b))) w := by
  have h := eqlW m n hm hn w
  rw [hb] at h
  unfold execOp
  simp only [hx, hy]
  go_simp
theorem ic_word {s : Bool} {n x : Nat} (h : wd n 0 = x) : (ic s n)[1]? = some (.int .u64 (x : Nat)) := by subst h; rfl
def inI (z : Int) : Bool := decide (-9223372036854775808 ≤ z ∧ z ≤ 9223372036854775807)
def smallV (z : Int) : Value := .tuple #[.int .i64 (if inI z then z else 0), .bool (inI z)]
set_option maxRecDepth 100000 in
set_option maxHeartbeats 3200000 in
theorem small_big (s : Bool) (a : Nat) (ha : Hid (a < M)) (h : B ≤ a) (w : World) : Calls Tryd.prog 21 #[iv s a] w (Ret (.tuple #[.int .i64 0, .bool false]) w) := by
  obtain ⟨x, hx⟩ : ∃ x, wd a 0 = x := ⟨_, rfl⟩
  have h1 := ic_word (s := s) hx
  have hxB : x < B := by rw [← hx]; exact wd_lt a 0
  have hxM : x < M := Nat.lt_trans hxB (by have := m_big; rw [B_eq]; omega)
  have hne : eqB a x = false := decide_eq_false (by omega)
  have HO := Lib.hid (fun w => of_any x (Lib.hid (by rw [← B_eq]; exact hxB)) w)
  have HE : Hid (a < M ∧ x < M ∧ eqB a x = false) := Lib.hid ⟨ha.out, hxM, hne⟩
  clear hx hxB hxM hne h ha
  refine enter fun u => ?_
  go_enter Tryd.func21, Tryd.ntmps21
  cases s
  all_goals (
    go_wp2_with (first
      | ((with_reducible apply list_box); exact rfl; intro g1 u1))
    refine region (by kernel_rfl) (by kernel_rfl) fun _ => ?_
    refine qt_value (v := .pointer (some ⟨g1, 1, none⟩)) (by rfl) (by intro w; go_simp) ?_
    try simp only [Act.put, List.setIfInBounds_toArray, List.set_cons_succ, List.set_cons_zero]
    refine qt_load (by rfl) rfl inferInstance inferInstance ?_
    try simp only [Act.put, List.setIfInBounds_toArray, List.set_cons_succ, List.set_cons_zero]
    refine qt_value (v := .int .u64 x) (by rfl) (by intro w; go_simp) ?_
    try simp only [Act.put, List.setIfInBounds_toArray, List.set_cons_succ, List.set_cons_zero]
    refine qt_call (f := 38) (args := #[.int .u64 x]) (by rfl) (by intro w; go_simp) (fun u => HO.out _) ?_
    try simp only [Act.put, List.setIfInBounds_toArray, List.set_cons_succ, List.set_cons_zero]
    refine qt_value (v := .bool true) (by rfl) (exec_neW rfl rfl HE.out.1 HE.out.2.1 HE.out.2.2) ?_
    try simp only [Act.put, List.setIfInBounds_toArray, List.set_cons_succ, List.set_cons_zero]
    refine qt_value (v := .bool true) (by rfl) (by intro w; go_simp) ?_
    try simp only [Act.put, List.setIfInBounds_toArray, List.set_cons_succ, List.set_cons_zero]
    refine qt_skip ?hsk ?_
    case hsk => rfl
    try simp only [Act.put, List.setIfInBounds_toArray, List.set_cons_succ, List.set_cons_zero]
    refine qt_skip ?hsk ?_
    case hsk => rfl
    try simp only [Act.put, List.setIfInBounds_toArray, List.set_cons_succ, List.set_cons_zero]
    refine qt_skip ?hsk ?_
    case hsk => rfl
    try simp only [Act.put, List.setIfInBounds_toArray, List.set_cons_succ, List.set_cons_zero]
    refine qt_value (v := .bool true) (by rfl) (by intro w; go_simp) ?_
    try simp only [Act.put, List.setIfInBounds_toArray, List.set_cons_succ, List.set_cons_zero]
    refine wpQuiet_nil ?_
    rintro _ ⟨u3, rfl⟩
    go_wp2_with (fail)
    go_ret2
    exact ⟨rfl, KW.below _⟩)
set_option maxRecDepth 100000 in
set_option maxHeartbeats 3200000 in
theorem small_small (s : Bool) (a : Nat) (ha : Hid (a < B)) (w : World) : Calls Tryd.prog 21 #[iv s a] w (Ret (smallV (sg s a)) w) := by
  have h1 := ic_word (s := s) (wd_self ha.out)
  have HB : Hid (a < 18446744073709551616) := Lib.hid (by rw [← B_eq]; exact ha.out)
  have HO := Lib.hid (fun w => of_any a HB w)
  have HE : Hid (a < M) := Lib.hid (Nat.lt_trans ha.out (by have := m_big; rw [B_eq]; omega))
  clear ha
  unfold smallV inI
  refine enter fun u => ?_
  go_enter Tryd.func21, Tryd.ntmps21
  cases s
  · have es := sg_f a
    rw [es]
    by_cases h : a ≤ 9223372036854775807
    · have hg : decide ((9223372036854775807 : Int) < (a : Int)) = false := by simp; omega
      have hi : decide (-9223372036854775808 ≤ (a : Int) ∧ (a : Int) ≤ 9223372036854775807) = true := by simp; omega
      rw [hi]
      clear h hi
      go_wp2_with (first
        | ((with_reducible apply list_box); exact rfl; intro g1 u1))
      refine region (by kernel_rfl) (by kernel_rfl) fun _ => ?_
      refine qt_value (v := .pointer (some ⟨g1, 1, none⟩)) (by rfl) (by intro w; go_simp) ?_
      try simp only [Act.put, List.setIfInBounds_toArray, List.set_cons_succ, List.set_cons_zero]
      refine qt_load (by rfl) rfl inferInstance inferInstance ?_
      try simp only [Act.put, List.setIfInBounds_toArray, List.set_cons_succ, List.set_cons_zero]
      refine qt_value (v := .int .u64 a) (by rfl) (by intro w; go_simp) ?_
      try simp only [Act.put, List.setIfInBounds_toArray, List.set_cons_succ, List.set_cons_zero]
      refine qt_call (f := 38) (args := #[.int .u64 a]) (by rfl) (by intro w; go_simp) (fun u => HO.out _) ?_
      try simp only [Act.put, List.setIfInBounds_toArray, List.set_cons_succ, List.set_cons_zero]
      refine qt_value (v := .bool false) (by rfl) (exec_neW rfl rfl HE.out HE.out (eqB_same a)) ?_
      try simp only [Act.put, List.setIfInBounds_toArray, List.set_cons_succ, List.set_cons_zero]
      refine qt_value (v := .bool false) (by rfl) (by intro w; go_simp) ?_
      try simp only [Act.put, List.setIfInBounds_toArray, List.set_cons_succ, List.set_cons_zero]
      refine qt_value (v := .int .u64 a) (by rfl) (by intro w; go_simp) ?_
      try simp only [Act.put, List.setIfInBounds_toArray, List.set_cons_succ, List.set_cons_zero]
      refine qt_value (v := .int .u64 9223372036854775807) (by rfl) (by intro w; go_simp) ?_
      try simp only [Act.put, List.setIfInBounds_toArray, List.set_cons_succ, List.set_cons_zero]
      refine qt_value (v := .bool false) (by rfl) (by intro w; go_simp) ?_
      try simp only [Act.put, List.setIfInBounds_toArray, List.set_cons_succ, List.set_cons_zero]
      refine qt_value (v := .bool false) (by rfl) (by intro w; go_simp) ?_
      try simp only [Act.put, List.setIfInBounds_toArray, List.set_cons_succ, List.set_cons_zero]
      refine wpQuiet_nil ?_
      rintro _ ⟨u3, rfl⟩
      go_wp2_with (fail)
      go_ret2
      exact ⟨ret_two (vint (by unfold wrap64; have := of_decide_eq_false hg; omega)) rfl, KW.below _⟩
    · have hg : decide ((9223372036854775807 : Int) < (a : Int)) = true := by simp; omega
      have hi : decide (-9223372036854775808 ≤ (a : Int) ∧ (a : Int) ≤ 9223372036854775807) = false := by simp; omega
      rw [hi]
      clear h hi
      go_wp2_with (first
        | ((with_reducible apply list_box); exact rfl; intro g1 u1))
      refine region (by kernel_rfl) (by kernel_rfl) fun _ => ?_
      refine qt_value (v := .pointer (some ⟨g1, 1, none⟩)) (by rfl) (by intro w; go_simp) ?_
      try simp only [Act.put, List.setIfInBounds_toArray, List.set_cons_succ, List.set_cons_zero]
      refine qt_load (by rfl) rfl inferInstance inferInstance ?_
      try simp only [Act.put, List.setIfInBounds_toArray, List.set_cons_succ, List.set_cons_zero]
      refine qt_value (v := .int .u64 a) (by rfl) (by intro w; go_simp) ?_
      try simp only [Act.put, List.setIfInBounds_toArray, List.set_cons_succ, List.set_cons_zero]
      refine qt_call (f := 38) (args := #[.int .u64 a]) (by rfl) (by intro w; go_simp) (fun u => HO.out _) ?_
      try simp only [Act.put, List.setIfInBounds_toArray, List.set_cons_succ, List.set_cons_zero]
      refine qt_value (v := .bool false) (by rfl) (exec_neW rfl rfl HE.out HE.out (eqB_same a)) ?_
      try simp only [Act.put, List.setIfInBounds_toArray, List.set_cons_succ, List.set_cons_zero]
      refine qt_value (v := .bool false) (by rfl) (by intro w; go_simp) ?_
      try simp only [Act.put, List.setIfInBounds_toArray, List.set_cons_succ, List.set_cons_zero]
      refine qt_value (v := .int .u64 a) (by rfl) (by intro w; go_simp) ?_
      try simp only [Act.put, List.setIfInBounds_toArray, List.set_cons_succ, List.set_cons_zero]
      refine qt_value (v := .int .u64 9223372036854775807) (by rfl) (by intro w; go_simp) ?_
      try simp only [Act.put, List.setIfInBounds_toArray, List.set_cons_succ, List.set_cons_zero]
      refine qt_value (v := .bool true) (by rfl) (by intro w; go_simp) ?_
      try simp only [Act.put, List.setIfInBounds_toArray, List.set_cons_succ, List.set_cons_zero]
      refine qt_value (v := .bool true) (by rfl) (by intro w; go_simp) ?_
      try simp only [Act.put, List.setIfInBounds_toArray, List.set_cons_succ, List.set_cons_zero]
      refine wpQuiet_nil ?_
      rintro _ ⟨u3, rfl⟩
      go_wp2_with (fail)
      go_ret2
      exact ⟨rfl, KW.below _⟩
  · have es := sg_t a
    rw [es]
    by_cases h : a ≤ 9223372036854775808
    · have hg : decide ((9223372036854775808 : Int) < (a : Int)) = false := by simp; omega
      have hi : decide (-9223372036854775808 ≤ -(a : Int) ∧ -(a : Int) ≤ 9223372036854775807) = true := by simp; omega
      rw [hi]
      clear h hi
      go_wp2_with (first
        | ((with_reducible apply list_box); exact rfl; intro g1 u1))
      refine region (by kernel_rfl) (by kernel_rfl) fun _ => ?_
      refine qt_value (v := .pointer (some ⟨g1, 1, none⟩)) (by rfl) (by intro w; go_simp) ?_
      try simp only [Act.put, List.setIfInBounds_toArray, List.set_cons_succ, List.set_cons_zero]
      refine qt_load (by rfl) rfl inferInstance inferInstance ?_
      try simp only [Act.put, List.setIfInBounds_toArray, List.set_cons_succ, List.set_cons_zero]
      refine qt_value (v := .int .u64 a) (by rfl) (by intro w; go_simp) ?_
      try simp only [Act.put, List.setIfInBounds_toArray, List.set_cons_succ, List.set_cons_zero]
      refine qt_call (f := 38) (args := #[.int .u64 a]) (by rfl) (by intro w; go_simp) (fun u => HO.out _) ?_
      try simp only [Act.put, List.setIfInBounds_toArray, List.set_cons_succ, List.set_cons_zero]
      refine qt_value (v := .bool false) (by rfl) (exec_neW rfl rfl HE.out HE.out (eqB_same a)) ?_
      try simp only [Act.put, List.setIfInBounds_toArray, List.set_cons_succ, List.set_cons_zero]
      refine qt_value (v := .bool false) (by rfl) (by intro w; go_simp) ?_
      try simp only [Act.put, List.setIfInBounds_toArray, List.set_cons_succ, List.set_cons_zero]
      refine qt_value (v := .int .u64 a) (by rfl) (by intro w; go_simp) ?_
      try simp only [Act.put, List.setIfInBounds_toArray, List.set_cons_succ, List.set_cons_zero]
      refine qt_value (v := .int .u64 9223372036854775808) (by rfl) (by intro w; go_simp) ?_
      try simp only [Act.put, List.setIfInBounds_toArray, List.set_cons_succ, List.set_cons_zero]
      refine qt_value (v := .bool false) (by rfl) (by intro w; go_simp) ?_
      try simp only [Act.put, List.setIfInBounds_toArray, List.set_cons_succ, List.set_cons_zero]
      refine qt_value (v := .bool false) (by rfl) (by intro w; go_simp) ?_
      try simp only [Act.put, List.setIfInBounds_toArray, List.set_cons_succ, List.set_cons_zero]
      refine wpQuiet_nil ?_
      rintro _ ⟨u3, rfl⟩
      go_wp2_with (fail)
      go_ret2
      exact ⟨ret_two (vint (by rw [IntKind.wrap_u64]; unfold wrap64; have := of_decide_eq_false hg; omega)) rfl, KW.below _⟩
    · have hg : decide ((9223372036854775808 : Int) < (a : Int)) = true := by simp; omega
      have hi : decide (-9223372036854775808 ≤ -(a : Int) ∧ -(a : Int) ≤ 9223372036854775807) = false := by simp; omega
      rw [hi]
      clear h hi
      go_wp2_with (first
        | ((with_reducible apply list_box); exact rfl; intro g1 u1))
      refine region (by kernel_rfl) (by kernel_rfl) fun _ => ?_
      refine qt_value (v := .pointer (some ⟨g1, 1, none⟩)) (by rfl) (by intro w; go_simp) ?_
      try simp only [Act.put, List.setIfInBounds_toArray, List.set_cons_succ, List.set_cons_zero]
      refine qt_load (by rfl) rfl inferInstance inferInstance ?_
      try simp only [Act.put, List.setIfInBounds_toArray, List.set_cons_succ, List.set_cons_zero]
      refine qt_value (v := .int .u64 a) (by rfl) (by intro w; go_simp) ?_
      try simp only [Act.put, List.setIfInBounds_toArray, List.set_cons_succ, List.set_cons_zero]
      refine qt_call (f := 38) (args := #[.int .u64 a]) (by rfl) (by intro w; go_simp) (fun u => HO.out _) ?_
      try simp only [Act.put, List.setIfInBounds_toArray, List.set_cons_succ, List.set_cons_zero]
      refine qt_value (v := .bool false) (by rfl) (exec_neW rfl rfl HE.out HE.out (eqB_same a)) ?_
      try simp only [Act.put, List.setIfInBounds_toArray, List.set_cons_succ, List.set_cons_zero]
      refine qt_value (v := .bool false) (by rfl) (by intro w; go_simp) ?_
      try simp only [Act.put, List.setIfInBounds_toArray, List.set_cons_succ, List.set_cons_zero]
      refine qt_value (v := .int .u64 a) (by rfl) (by intro w; go_simp) ?_
      try simp only [Act.put, List.setIfInBounds_toArray, List.set_cons_succ, List.set_cons_zero]
      refine qt_value (v := .int .u64 9223372036854775808) (by rfl) (by intro w; go_simp) ?_
      try simp only [Act.put, List.setIfInBounds_toArray, List.set_cons_succ, List.set_cons_zero]
      refine qt_value (v := .bool true) (by rfl) (by intro w; go_simp) ?_
      try simp only [Act.put, List.setIfInBounds_toArray, List.set_cons_succ, List.set_cons_zero]
      refine qt_value (v := .bool true) (by rfl) (by intro w; go_simp) ?_
      try simp only [Act.put, List.setIfInBounds_toArray, List.set_cons_succ, List.set_cons_zero]
      refine wpQuiet_nil ?_
      rintro _ ⟨u3, rfl⟩
      go_wp2_with (fail)
      go_ret2
      exact ⟨rfl, KW.below _⟩
theorem wd_zero_of {a : Nat} (h : ¬ a < B) (s : Bool) : smallV (sg s a) = .tuple #[.int .i64 0, .bool false] := by
  have e : inI (sg s a) = false := decide_eq_false (by rw [B_eq] at h; cases s <;> simp only [sg_t, sg_f] <;> omega)
  unfold smallV
  rw [e]
  rfl
theorem small_any (s : Bool) (a : Nat) (ha : Hid (a < M)) (w : World) : Calls Tryd.prog 21 #[iv s a] w (Ret (smallV (sg s a)) w) := by
  by_cases h : a < B
  · exact small_small s a (Lib.hid h) w
  · rw [wd_zero_of h]
    exact small_big s a ha (by omega) w
/-- a number's digits, with its sign -/
def zdec (z : Int) : List UInt8 := if z < 0 then 45 :: decDigits z.natAbs else decDigits z.natAbs
theorem dec_small (a : Nat) (h : a < M) : (decDigits a).length ≤ 200 := by
  rw [Lib.decDigits_length]
  exact nDig_le 199 a (Nat.lt_trans h (by unfold M; rw [B_eq]; decide +kernel))
theorem minus_app (l : List UInt8) : (ByteArray.mk #[45]) ++ (ByteArray.mk l.toArray) = ByteArray.mk (45 :: l).toArray := by
  have := ba_append [45] l
  simpa using this
set_option maxRecDepth 100000 in
set_option maxHeartbeats 3200000 in
theorem stext_any (s : Bool) (a : Nat) (ha : Hid (a < M)) (w : World) (ht : Tab w) : Calls Tryd.prog 23 #[iv s a] w (Ret (vs (zdec (sg s a))) w) := by
  have HT := Lib.hid ht
  have HX := Lib.hid (fun w (ht : Tab w) => text_any a ha w ht)
  have HF := Lib.hid (fun w => fix_any s a ha w)
  clear ht
  have hl := dec_small a ha.out
  have hab := sg_abs s a
  unfold zdec
  rw [hab]
  unfold nv at HF
  rw [hab] at HF
  obtain ⟨p, hp⟩ : ∃ p, ng (sg s a) = p := ⟨_, rfl⟩
  rw [hp] at HF
  obtain ⟨t, hts⟩ : ∃ t : ByteArray, t = ⟨(decDigits a).toArray⟩ := ⟨_, rfl⟩
  have hsz : t.size ≤ 200 := by rw [hts, ba_size]; exact hl
  unfold vs at HX ⊢
  rw [← hts] at HX
  refine enter fun u => ?_
  go_enter Tryd.func23, Tryd.ntmps23
  cases p
  · rw [if_neg (of_decide_eq_false hp), ← hts]
    clear hp hts hl hab
    go_wp2_with (first
      | ((with_reducible apply list_box); exact rfl; intro _ _)
      | ((with_reducible apply ls_load); exact rfl; infer_instance; infer_instance)
      | (go_at_call 40; (with_reducible refine (HX.out _ (HT.out.later (KW.below _) (Nat.le_refl _))).mono ?_); rintro e w' ⟨rfl, hb'⟩; obtain ⟨_, rfl⟩ := KW.go _ hb'; clear hb')
      | (go_at_call 17; (with_reducible refine (HF.out _).mono ?_); rintro e w' ⟨rfl, hb'⟩; obtain ⟨_, rfl⟩ := KW.go _ hb'; clear hb'))
    go_ret
    exact ⟨rfl, KW.below _⟩
  · rw [if_pos (of_decide_eq_true hp), ← minus_app (decDigits a), ← hts]
    clear hp hts hl hab
    go_wp2_with (first
      | ((with_reducible apply list_box); exact rfl; intro _ _)
      | ((with_reducible apply ls_load); exact rfl; infer_instance; infer_instance)
      | (go_at_call 40; (with_reducible refine (HX.out _ (HT.out.later (KW.below _) (Nat.le_refl _))).mono ?_); rintro e w' ⟨rfl, hb'⟩; obtain ⟨_, rfl⟩ := KW.go _ hb'; clear hb')
      | (go_at_call 17; (with_reducible refine (HF.out _).mono ?_); rintro e w' ⟨rfl, hb'⟩; obtain ⟨_, rfl⟩ := KW.go _ hb'; clear hb'))
    go_ret
    exact ⟨rfl, KW.below _⟩
end Go.Proofs.YtmmnekcnaohnbaaDoor.SignW
