/-
  Plain facts on numbers in digits: no program is named here. 'parseE' is what a text is read as, by the document (Nu1): a number and an error's number; 'itoa' is the library's word for a number's digits.
-/
import Derived.Lib.ItoaNum
namespace NumM
open Go.Lib
/-- a digit's byte -/
def isD (c : UInt8) : Bool := decide (48 ≤ c.toNat ∧ c.toNat ≤ 57)
theorem isD_iff (c : UInt8) : isD c = true ↔ 48 ≤ c.toNat ∧ c.toNat ≤ 57 := by simp [isD]
def val (l : List UInt8) : Nat := l.foldl (fun n c => 10 * n + (c.toNat - 48)) 0
theorem val_nil : val [] = 0 := rfl
theorem val_snoc (l : List UInt8) (c : UInt8) : val (l ++ [c]) = 10 * val l + (c.toNat - 48) := by simp [val, List.foldl_append]
theorem fold_le (r : List UInt8) : ∀ n : Nat, n ≤ r.foldl (fun n c => 10 * n + (c.toNat - 48)) n := by
  induction r with
  | nil => intro n; exact Nat.le_refl _
  | cons c r ih => intro n; rw [List.foldl_cons]; exact Nat.le_trans (by omega) (ih _)
theorem val_append_le (l r : List UInt8) : val l ≤ val (l ++ r) := by
  unfold val; rw [List.foldl_append]; exact fold_le r _
theorem val_take_le (l : List UInt8) (k : Nat) : val (l.take k) ≤ val l := by
  have := val_append_le (l.take k) (l.drop k); rwa [List.take_append_drop] at this
theorem take_snoc (s : ByteArray) (k : Nat) (h : k < s.size) : s.data.toList.take (k + 1) = s.data.toList.take k ++ [s[k]] := by
  rw [List.take_succ_eq_append_getElem (by simpa using h)]; rfl

/-- the digits of a text that are to be read, and whether a minus stands ahead -/
def neg (l : List UInt8) : Bool := l.headD 0 == 45
def digs (l : List UInt8) : List UInt8 := if neg l then l.drop 1 else l
/-- digits without a 0 ahead of others -/
def areD (d : List UInt8) : Bool := !d.isEmpty && !(d.headD 0 == 48 && decide (1 < d.length)) && d.all isD
def okD (l : List UInt8) : Bool := areD (digs l) && !(neg l && (digs l == [48]))
def parseE (l : List UInt8) : Int × Int :=
  if okD l then (if val (digs l) ≤ 1152921504606846976 then (if neg l then - (val (digs l) : Int) else (val (digs l) : Int), 0) else (0, 6)) else (0, 2)
def betweenE (l : List UInt8) (lo hi : Int) : Int × Int :=
  if (parseE l).2 = 0 ∧ ((parseE l).1 < lo ∨ hi < (parseE l).1) then (0, 6) else parseE l
theorem parseE_cases (l : List UInt8) : parseE l = (0, 2) ∨ parseE l = (0, 6) ∨ ((parseE l).2 = 0 ∧ -1152921504606846976 ≤ (parseE l).1 ∧ (parseE l).1 ≤ 1152921504606846976) := by
  unfold parseE
  split
  · split
    · right; right
      split <;> simp <;> omega
    · right; left; rfl
  · left; rfl
theorem parseE_bd (l : List UInt8) : -1152921504606846976 ≤ (parseE l).1 ∧ (parseE l).1 ≤ 1152921504606846976 := by
  rcases parseE_cases l with h | h | h
  · rw [h]; decide
  · rw [h]; decide
  · exact h.2
theorem between_all (l : List UInt8) : betweenE l (-1152921504606846976) 1152921504606846976 = parseE l := by
  unfold betweenE
  have := parseE_bd l
  rw [if_neg (by omega)]

/-! ### digits of a number -/
theorem decDigits_small {u : Nat} (h : u < 10) : decDigits u = [UInt8.ofNat (48 + u)] := by rw [decDigits, dif_pos h]
theorem decDigits_big {u : Nat} (h : ¬ u < 10) : decDigits u = decDigits (u / 10) ++ [UInt8.ofNat (48 + u % 10)] := by rw [decDigits, dif_neg h]
theorem toNat_dig (k : Nat) (h : k < 10) : (UInt8.ofNat (48 + k)).toNat = 48 + k := by
  rw [UInt8.toNat_ofNat']; omega
theorem isD_dig (k : Nat) (h : k < 10) : isD (UInt8.ofNat (48 + k)) = true := by
  rw [isD_iff, toNat_dig k h]; omega
theorem dig_of (c : UInt8) (h : isD c = true) : UInt8.ofNat (48 + (c.toNat - 48)) = c := by
  rw [isD_iff] at h
  apply UInt8.toNat_inj.1
  rw [toNat_dig _ (by omega)]; omega
theorem val_dec (u : Nat) : val (decDigits u) = u := by
  induction u using Nat.strongRecOn with
  | ind u ih =>
    by_cases h : u < 10
    · rw [decDigits_small h]; show 10 * 0 + _ = u; rw [toNat_dig u h]; omega
    · rw [decDigits_big h, val_snoc, ih (u / 10) (by omega), toNat_dig _ (by omega)]; omega
theorem all_dec (u : Nat) : (decDigits u).all isD = true := by
  induction u using Nat.strongRecOn with
  | ind u ih =>
    by_cases h : u < 10
    · rw [decDigits_small h, List.all_cons, isD_dig u h]; rfl
    · rw [decDigits_big h, List.all_append, ih (u / 10) (by omega), List.all_cons, isD_dig (u % 10) (by omega)]; rfl
theorem dec_ne (u : Nat) : decDigits u ≠ [] := by
  by_cases h : u < 10
  · rw [decDigits_small h]; simp
  · rw [decDigits_big h]; simp
theorem len_dec (u : Nat) : (decDigits u).length = nDigits u := by
  induction u using Nat.strongRecOn with
  | ind u ih =>
    by_cases h : u < 10
    · rw [decDigits_small h, nDigits_small h]; rfl
    · rw [decDigits_big h, nDigits_big h, List.length_append, ih (u / 10) (by omega)]; rfl
theorem head_append {l r : List UInt8} (h : l ≠ []) : (l ++ r).headD 0 = l.headD 0 := by
  cases l with
  | nil => exact absurd rfl h
  | cons a l => rfl
theorem head_dec (u : Nat) (h : 0 < u) : ((decDigits u).headD 0).toNat ≠ 48 := by
  induction u using Nat.strongRecOn with
  | ind u ih =>
    by_cases h' : u < 10
    · rw [decDigits_small h']; show (UInt8.ofNat (48 + u)).toNat ≠ 48; rw [toNat_dig u h']; omega
    · rw [decDigits_big h', head_append (dec_ne _)]; exact ih (u / 10) (by omega) (by omega)
theorem beq48 (c : UInt8) (h : c.toNat ≠ 48) : (c == 48) = false := by
  rw [beq_eq_false_iff_ne]; intro e; exact h (by rw [e]; rfl)
theorem areD_dec (u : Nat) : areD (decDigits u) = true := by
  unfold areD
  rw [all_dec u]
  have h1 : (decDigits u).isEmpty = false := by
    cases h : decDigits u with
    | nil => exact absurd h (dec_ne u)
    | cons a l => rfl
  rw [h1]
  by_cases h : u < 10
  · rw [decDigits_small h]; simp
  · rw [beq48 _ (head_dec u (by omega))]; rfl
/-- each text of digits without a 0 ahead of others is the digits of what it is read as -/
theorem dec_val_snoc (l : List UInt8) (c : UInt8) (hc : isD c = true) (hl : 0 < val l) (ih : decDigits (val l) = l) : decDigits (val (l ++ [c])) = l ++ [c] := by
  have hc' := (isD_iff c).1 hc
  rw [val_snoc, decDigits_big (by omega)]
  have e1 : (10 * val l + (c.toNat - 48)) / 10 = val l := by omega
  have e2 : (10 * val l + (c.toNat - 48)) % 10 = c.toNat - 48 := by omega
  rw [e1, e2, ih, dig_of c hc]
theorem fold_pos (r : List UInt8) (n : Nat) (h : 0 < n) : 0 < r.foldl (fun n c => 10 * n + (c.toNat - 48)) n := Nat.lt_of_lt_of_le h (fold_le r n)
theorem dec_of_pos : ∀ (n : Nat) (l : List UInt8), l.length = n → l.all isD = true → l ≠ [] → (l.headD 0).toNat ≠ 48 → decDigits (val l) = l ∧ 0 < val l := by
  intro n
  induction n with
  | zero => intro l h1 _ h2; exact absurd (List.eq_nil_of_length_eq_zero h1) h2
  | succ n ih =>
    intro l h1 h2 h3 h4
    have e := (List.dropLast_concat_getLast h3).symm
    generalize l.dropLast = r at e
    generalize l.getLast h3 = c at e
    subst e
    rw [List.all_append, Bool.and_eq_true] at h2
    have hc : isD c = true := by simpa using h2.2
    have hc' := (isD_iff c).1 hc
    by_cases hr : r = []
    · subst hr
      have h4' : c.toNat ≠ 48 := h4
      have hv : val ([] ++ [c]) = c.toNat - 48 := by rw [val_snoc, val_nil]; omega
      rw [hv, decDigits_small (by omega), dig_of c hc]
      exact ⟨rfl, by omega⟩
    · rw [head_append hr] at h4
      obtain ⟨i1, i2⟩ := ih r (by simpa using h1) h2.1 hr h4
      exact ⟨dec_val_snoc r c hc i2 i1, Nat.lt_of_lt_of_le i2 (val_append_le _ _)⟩
theorem dec_of_areD (d : List UInt8) (h : areD d = true) : decDigits (val d) = d := by
  unfold areD at h
  simp only [Bool.and_eq_true, Bool.not_eq_true', List.isEmpty_eq_false_iff, Bool.and_eq_false_iff] at h
  obtain ⟨⟨h1, h2⟩, h3⟩ := h
  rcases h2 with h2 | h2
  · refine (dec_of_pos d.length d rfl h3 h1 ?_).1
    intro e
    rw [beq_eq_false_iff_ne] at h2
    exact h2 (UInt8.toNat_inj.1 e)
  · match d, h1, h2, h3 with
    | [c], _, _, h3 =>
      have hc : isD c = true := by simpa using h3
      have hc' := (isD_iff c).1 hc
      have hv : val [c] = c.toNat - 48 := by show 10 * 0 + _ = _; omega
      rw [hv, decDigits_small (by omega), dig_of c hc]
    | a :: b :: l, _, h2, _ => simp at h2
theorem neg_dec (u : Nat) : neg (decDigits u) = false := by
  unfold neg
  have h := all_dec u
  cases e : decDigits u with
  | nil => exact absurd e (dec_ne u)
  | cons a l =>
    rw [e] at h
    simp only [List.all_cons, Bool.and_eq_true] at h
    have := (isD_iff a).1 h.1
    rw [List.headD_cons, beq_eq_false_iff_ne]
    intro e; rw [e] at this; revert this; decide
theorem digs_dec (u : Nat) : digs (decDigits u) = decDigits u := by unfold digs; rw [neg_dec]; rfl
theorem neg_cons (l : List UInt8) : neg (45 :: l) = true := rfl
theorem digs_cons (l : List UInt8) : digs (45 :: l) = l := rfl
theorem dec_ne48 (u : Nat) (h : 0 < u) : (decDigits u == [48]) = false := by
  rw [beq_eq_false_iff_ne]; intro e
  have := head_dec u h
  rw [e] at this; exact this rfl
/-- what is told is read (Nu3) -/
theorem parse_itoa (n : Int) : parseE (itoa n) = if -1152921504606846976 ≤ n ∧ n ≤ 1152921504606846976 then (n, 0) else (0, 6) := by
  unfold itoa
  by_cases h : n < 0
  · rw [if_pos h]
    unfold parseE okD
    rw [neg_cons, digs_cons, areD_dec, val_dec, dec_ne48 _ (by omega)]
    simp only [Bool.and_false, Bool.not_false, Bool.and_self, if_true]
    by_cases h2 : n.natAbs ≤ 1152921504606846976
    · rw [if_pos h2, if_pos (by omega)]; congr 1; omega
    · rw [if_neg h2, if_neg (by omega)]
  · rw [if_neg h]
    unfold parseE okD
    rw [neg_dec, digs_dec, areD_dec, val_dec]
    simp only [Bool.false_and, Bool.not_false, Bool.and_self, if_true, Bool.false_eq_true, if_false]
    by_cases h2 : n.toNat ≤ 1152921504606846976
    · rw [if_pos h2, if_pos (by omega)]; congr 1; omega
    · rw [if_neg h2, if_neg (by omega)]
theorem cons_of_neg (l : List UInt8) (h : neg l = true) : l = 45 :: digs l := by
  cases l with
  | nil => exact absurd h (by decide)
  | cons a l =>
    unfold neg at h
    rw [List.headD_cons, beq_iff_eq] at h
    subst h; rfl
/-- no other text is the same number's (Nu3) -/
theorem itoa_parse (l : List UInt8) (h : (parseE l).2 = 0) : itoa (parseE l).1 = l := by
  unfold parseE at h ⊢
  by_cases h1 : okD l = true
  · rw [if_pos h1] at h ⊢
    by_cases h2 : val (digs l) ≤ 1152921504606846976
    · rw [if_pos h2] at h ⊢
      unfold okD at h1
      simp only [Bool.and_eq_true, Bool.not_eq_true'] at h1
      have hd := dec_of_areD _ h1.1
      by_cases hn : neg l = true
      · rw [if_pos hn]
        have hpos : 0 < val (digs l) := by
          apply Nat.pos_of_ne_zero; intro e
          rw [e] at hd
          have h3 := h1.2
          rw [hn, ← hd, decDigits_small (by omega)] at h3
          exact absurd h3 (by decide)
        unfold itoa
        rw [if_pos (by omega)]
        have e1 : (-(val (digs l) : Int)).natAbs = val (digs l) := by omega
        rw [e1, hd]; exact (cons_of_neg l hn).symm
      · rw [if_neg hn]
        unfold itoa
        rw [if_neg (by omega), Int.toNat_natCast, hd]
        unfold digs; rw [if_neg hn]
    · rw [if_neg h2] at h; exact absurd h (by decide)
  · rw [if_neg h1] at h; exact absurd h (by decide)
theorem len_itoa (n : Int) : (itoa n).length = nDigits n.natAbs + (if n < 0 then 1 else 0) := by
  unfold itoa
  split
  · rw [List.length_cons, len_dec]
  · rw [len_dec]; congr 1; omega
end NumM
