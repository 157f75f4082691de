/-
  Sorted rows, plain: the insertion sort by exchanges, equal neighbours struck, an insertion at its place, what tells a sorted row.
-/
namespace SortM
variable {α : Type} [Inhabited α]
/-- the element j sinks -/
def sink (lt : α → α → Bool) : Nat → List α → List α
  | 0, l => l
  | j + 1, l => if lt l[j + 1]! l[j]! = true then sink lt j ((l.set (j + 1) l[j]!).set j l[j + 1]!) else l
/-- k elements from i on sink, each in its turn -/
def sinks (lt : α → α → Bool) : Nat → Nat → List α → List α
  | 0, _, l => l
  | k + 1, i, l => sinks lt k (i + 1) (sink lt i l)
def insR (lt : α → α → Bool) (x : α) : List α → List α
  | [] => [x]
  | a :: r => if lt x a = true then a :: insR lt x r else x :: a :: r
theorem get_at (A : List α) (x : α) (C : List α) : (A ++ x :: C)[A.length]! = x := by simp
theorem sink_eq (lt : α → α → Bool) : ∀ (R : List α) (x : α) (C : List α), sink lt R.length (R.reverse ++ x :: C) = (insR lt x R).reverse ++ C
  | [], x, C => rfl
  | a :: r, x, C => by
    have e1 : ((a :: r).reverse ++ x :: C)[r.length + 1]! = x := by
      simp
    have e0 : ((a :: r).reverse ++ x :: C)[r.length]! = a := by
      simp
    have es : (((a :: r).reverse ++ x :: C).set (r.length + 1) a).set r.length x = r.reverse ++ x :: a :: C := by
      rw [List.reverse_cons, List.append_assoc, List.singleton_append]
      rw [List.set_append_right _ _ (by simp), List.set_append_right _ _ (by simp)]
      simp
    show sink lt (r.length + 1) _ = _
    rw [sink, e1, e0, insR]
    by_cases h : lt x a = true
    · rw [if_pos h, if_pos h, es, sink_eq lt r x (a :: C)]; simp
    · rw [if_neg h, if_neg h]; simp
omit [Inhabited α] in
theorem insR_len (lt : α → α → Bool) (x : α) : ∀ R : List α, (insR lt x R).length = R.length + 1
  | [] => rfl
  | a :: r => by
    rw [insR]
    split
    · rw [List.length_cons, insR_len lt x r]; rfl
    · rfl
theorem sinks_eq (lt : α → α → Bool) : ∀ (C R : List α), sinks lt C.length R.length (R.reverse ++ C) = (C.foldl (fun R x => insR lt x R) R).reverse
  | [], R => by simp [sinks]
  | x :: C, R => by
    rw [List.length_cons, sinks, sink_eq, List.foldl_cons, ← insR_len lt x R]
    exact sinks_eq lt C (insR lt x R)
/-- a row, sorted -/
def srt (lt : α → α → Bool) (l : List α) : List α := (l.foldl (fun R x => insR lt x R) []).reverse
theorem srt_eq (lt : α → α → Bool) (l : List α) : sinks lt (l.length - 1) 1 l = srt lt l := by
  cases l with
  | nil => rfl
  | cons a C => exact sinks_eq lt C [a]
theorem sink_len (lt : α → α → Bool) : ∀ (j : Nat) (l : List α), (sink lt j l).length = l.length
  | 0, _ => rfl
  | j + 1, l => by
    rw [sink]
    split
    · rw [sink_len lt j]; simp
    · rfl
omit [Inhabited α] in
theorem insR_mem (lt : α → α → Bool) (x : α) : ∀ (R : List α) (y : α), y ∈ insR lt x R ↔ y = x ∨ y ∈ R
  | [], y => by simp [insR]
  | a :: r, y => by
    rw [insR]
    split
    · rw [List.mem_cons, insR_mem lt x r, List.mem_cons]
      constructor
      · rintro (h | h | h) <;> simp [h]
      · rintro (h | h | h) <;> simp [h]
    · rw [List.mem_cons]
omit [Inhabited α] in
theorem srt_mem (lt : α → α → Bool) (l : List α) (y : α) : y ∈ srt lt l ↔ y ∈ l := by
  have H : ∀ (C R : List α), y ∈ C.foldl (fun R x => insR lt x R) R ↔ y ∈ C ∨ y ∈ R := by
    intro C
    induction C with
    | nil => intro R; simp
    | cons x C ih =>
      intro R
      rw [List.foldl_cons, ih, insR_mem, List.mem_cons]
      constructor
      · rintro (h | h | h) <;> simp [h]
      · rintro ((h | h) | h) <;> simp [h]
  unfold srt
  rw [List.mem_reverse, H]
  simp
omit [Inhabited α] in
theorem srt_len (lt : α → α → Bool) (l : List α) : (srt lt l).length = l.length := by
  have H : ∀ (C R : List α), (C.foldl (fun R x => insR lt x R) R).length = C.length + R.length := by
    intro C
    induction C with
    | nil => intro R; simp
    | cons x C ih => intro R; rw [List.foldl_cons, ih, insR_len, List.length_cons]; omega
  unfold srt
  rw [List.length_reverse, H]; simp
/-- lt is an order of what p tells -/
structure Tot (p : α → Prop) (lt : α → α → Bool) : Prop where
  irr : ∀ a, lt a a = false
  tr : ∀ a b c, p a → p b → p c → lt a b = true → lt b c = true → lt a c = true
  tri : ∀ a b, p a → p b → lt a b = true ∨ a = b ∨ lt b a = true
section
variable {p : α → Prop} {lt : α → α → Bool} (T : Tot p lt)
include T
omit [Inhabited α] in
theorem Tot.asym {a b : α} (ha : p a) (hb : p b) (h : lt a b = true) : lt b a = false := by
  cases e : lt b a with
  | false => rfl
  | true => have := T.tr a b a ha hb ha h e; rw [T.irr] at this; cases this
omit [Inhabited α] in
theorem Tot.le_trans {a b c : α} (ha : p a) (hb : p b) (hc : p c) (h1 : lt a b = false) (h2 : lt b c = false) : lt a c = false := by
  cases e : lt a c with
  | false => rfl
  | true =>
    rcases T.tri a b ha hb with h | rfl | h
    · rw [h] at h1; cases h1
    · rw [e] at h2; cases h2
    · have := T.tr b a c hb ha hc h e; rw [this] at h2; cases h2
omit [Inhabited α] in
theorem insR_desc {x : α} (hx : p x) : ∀ {R : List α}, (∀ y ∈ R, p y) → R.Pairwise (fun a b => lt a b = false) → (insR lt x R).Pairwise (fun a b => lt a b = false)
  | [], _, _ => by simp [insR]
  | a :: r, hp, h => by
    have hpa := hp a (by simp)
    have hpr : ∀ y ∈ r, p y := fun y hy => hp y (List.mem_cons_of_mem _ hy)
    obtain ⟨h1, h2⟩ := List.pairwise_cons.1 h
    rw [insR]
    split
    · rename_i hl
      refine List.pairwise_cons.2 ⟨fun b hb => ?_, insR_desc hx hpr h2⟩
      rcases (insR_mem lt x r b).1 hb with rfl | hb
      · exact T.asym hx hpa hl
      · exact h1 b hb
    · rename_i hl
      have hl : lt x a = false := by simpa using hl
      refine List.pairwise_cons.2 ⟨fun b hb => ?_, h⟩
      rcases List.mem_cons.1 hb with rfl | hb
      · exact hl
      · exact T.le_trans hx hpa (hpr b hb) hl (h1 b hb)
omit [Inhabited α] in
theorem srt_asc {l : List α} (hp : ∀ y ∈ l, p y) : (srt lt l).Pairwise (fun a b => lt b a = false) := by
  have H : ∀ (C R : List α), (∀ y ∈ C, p y) → (∀ y ∈ R, p y) → R.Pairwise (fun a b => lt a b = false) → (C.foldl (fun R x => insR lt x R) R).Pairwise (fun a b => lt a b = false) := by
    intro C
    induction C with
    | nil => intro R _ _ h; exact h
    | cons x C ih =>
      intro R h1 h2 h3
      rw [List.foldl_cons]
      refine ih _ (fun y hy => h1 y (List.mem_cons_of_mem _ hy)) (fun y hy => ?_) (insR_desc T (h1 x (by simp)) h2 h3)
      rcases (insR_mem lt x R y).1 hy with rfl | hy
      · exact h1 _ (by simp)
      · exact h2 y hy
  unfold srt
  exact List.pairwise_reverse.2 (H l [] hp (by simp) List.Pairwise.nil)
omit [Inhabited α] in
/-- sorted rows of the same elements, each once, are the same -/
theorem sorted_eq : ∀ {l m : List α}, (∀ y ∈ l, p y) → (∀ y ∈ m, p y) → l.Pairwise (fun a b => lt a b = true) → m.Pairwise (fun a b => lt a b = true) → (∀ y, y ∈ l ↔ y ∈ m) → l = m
  | [], [], _, _, _, _, _ => rfl
  | [], b :: m, _, _, _, _, h => absurd ((h b).2 (by simp)) (by simp)
  | a :: l, [], _, _, _, _, h => absurd ((h a).1 (by simp)) (by simp)
  | a :: l, b :: m, hp, hq, h1, h2, h => by
    obtain ⟨h1a, h1l⟩ := List.pairwise_cons.1 h1
    obtain ⟨h2b, h2m⟩ := List.pairwise_cons.1 h2
    have hab : a = b := by
      rcases List.mem_cons.1 ((h a).1 (by simp)) with h3 | h3
      · exact h3
      · rcases List.mem_cons.1 ((h b).2 (by simp)) with h4 | h4
        · exact h4.symm
        · have e1 := h2b a h3
          have e2 := T.asym (hp a (by simp)) (hq b (by simp)) (h1a b h4)
          rw [e1] at e2; cases e2
    subst hab
    congr 1
    refine sorted_eq (fun y hy => hp y (List.mem_cons_of_mem _ hy)) (fun y hy => hq y (List.mem_cons_of_mem _ hy)) h1l h2m fun y => ⟨fun hy => ?_, fun hy => ?_⟩
    · rcases List.mem_cons.1 ((h y).1 (List.mem_cons_of_mem _ hy)) with rfl | h3
      · have := h1a _ hy; rw [T.irr] at this; cases this
      · exact h3
    · rcases List.mem_cons.1 ((h y).2 (List.mem_cons_of_mem _ hy)) with rfl | h3
      · have := h2b _ hy; rw [T.irr] at this; cases this
      · exact h3
end
section
variable [DecidableEq α]
/-- what is left behind q of a row whose equal neighbours are struck -/
def comT : α → List α → List α
  | _, [] => []
  | q, a :: r => if a = q then comT q r else a :: comT a r
def comL : List α → List α
  | [] => []
  | a :: r => a :: comT a r
omit [Inhabited α] in
theorem comT_mem : ∀ (q : α) (l : List α) (y : α), y = q ∨ y ∈ comT q l ↔ y = q ∨ y ∈ l
  | q, [], y => by simp [comT]
  | q, a :: r, y => by
    rw [comT]
    split
    · rename_i h
      subst h
      rw [comT_mem a r y]
      simp
    · have := comT_mem a r y
      rw [List.mem_cons, List.mem_cons]
      constructor
      · rintro (h | h)
        · exact .inl h
        · exact .inr (this.1 h)
      · rintro (h | h)
        · exact .inl h
        · exact .inr (this.2 h)
omit [Inhabited α] in
theorem comL_mem (l : List α) (y : α) : y ∈ comL l ↔ y ∈ l := by
  cases l with
  | nil => exact Iff.rfl
  | cons a r => rw [comL, List.mem_cons, List.mem_cons]; exact comT_mem a r y
omit [Inhabited α] in
theorem comT_sub : ∀ (q : α) (l : List α) (y : α), y ∈ comT q l → y ∈ l
  | q, [], y, h => by simp [comT] at h
  | q, a :: r, y, h => by
    rw [comT] at h
    split at h
    · exact List.mem_cons_of_mem _ (comT_sub q r y h)
    · rcases List.mem_cons.1 h with rfl | h
      · exact List.mem_cons_self ..
      · exact List.mem_cons_of_mem _ (comT_sub a r y h)
omit [Inhabited α] in
theorem comT_len : ∀ (q : α) (l : List α), (comT q l).length ≤ l.length
  | _, [] => by simp [comT]
  | q, a :: r => by
    rw [comT]
    split
    · have := comT_len q r; rw [List.length_cons]; omega
    · have := comT_len a r; rw [List.length_cons, List.length_cons]; omega
variable {p : α → Prop} {lt : α → α → Bool} (T : Tot p lt)
include T
omit [Inhabited α] in
theorem comT_asc : ∀ {q : α} {l : List α}, p q → (∀ y ∈ l, p y) → (q :: l).Pairwise (fun a b => lt b a = false) → (q :: comT q l).Pairwise (fun a b => lt a b = true)
  | q, [], _, _, _ => by simp [comT]
  | q, a :: r, hq, hp, h => by
    have hpa := hp a (by simp)
    have hpr : ∀ y ∈ r, p y := fun y hy => hp y (List.mem_cons_of_mem _ hy)
    obtain ⟨h1, h2⟩ := List.pairwise_cons.1 h
    rw [comT]
    split
    · rename_i e
      subst e
      exact comT_asc hpa hpr h2
    · rename_i e
      have h3 := comT_asc hpa hpr h2
      have hqa : lt q a = true := by
        rcases T.tri q a hq hpa with h4 | h4 | h4
        · exact h4
        · exact absurd h4.symm e
        · rw [h1 a (by simp)] at h4; cases h4
      refine List.pairwise_cons.2 ⟨fun b hb => ?_, h3⟩
      rcases List.mem_cons.1 hb with rfl | hb
      · exact hqa
      · exact T.tr q a b hq hpa (hpr b (comT_sub a r b hb)) hqa ((List.pairwise_cons.1 h3).1 b hb)
omit [Inhabited α] in
theorem comL_asc {l : List α} (hp : ∀ y ∈ l, p y) (h : l.Pairwise (fun a b => lt b a = false)) : (comL l).Pairwise (fun a b => lt a b = true) := by
  cases l with
  | nil => exact List.Pairwise.nil
  | cons a r => exact comT_asc T (hp a (by simp)) (fun y hy => hp y (List.mem_cons_of_mem _ hy)) h
omit T
/-! ### an insertion at its place -/
/-- behind the last one of k that is less -/
def atF (lt : α → α → Bool) (O : List α) (x : α) : Nat → Nat
  | 0 => 0
  | k + 1 => if lt O[k]! x = true then k + 1 else atF lt O x k
/-- is one of k the same? -/
def smF (O : List α) (x : α) : Nat → Bool
  | 0 => false
  | k + 1 => smF O x k || decide (O[k]! = x)
def insS (lt : α → α → Bool) (O : List α) (x : α) : List α :=
  if smF O x O.length = true then O else O.take (atF lt O x O.length) ++ x :: O.drop (atF lt O x O.length)
omit [DecidableEq α] in
theorem atF_le (lt : α → α → Bool) (O : List α) (x : α) : ∀ k, atF lt O x k ≤ k
  | 0 => Nat.le_refl _
  | k + 1 => by
    rw [atF]
    split
    · exact Nat.le_refl _
    · exact Nat.le_succ_of_le (atF_le lt O x k)
theorem smF_iff (O : List α) (x : α) : ∀ k, smF O x k = true ↔ ∃ i, i < k ∧ O[i]! = x
  | 0 => by simp [smF]
  | k + 1 => by
    rw [smF, Bool.or_eq_true, smF_iff O x k, decide_eq_true_eq]
    constructor
    · rintro (⟨i, h1, h2⟩ | h)
      · exact ⟨i, by omega, h2⟩
      · exact ⟨k, by omega, h⟩
    · rintro ⟨i, h1, h2⟩
      by_cases h : i = k
      · subst h; exact .inr h2
      · exact .inl ⟨i, by omega, h2⟩
omit [DecidableEq α] in
theorem atF_spec (lt : α → α → Bool) (O : List α) (x : α) : ∀ k, (atF lt O x k ≠ 0 → lt O[atF lt O x k - 1]! x = true) ∧ ∀ i, atF lt O x k ≤ i → i < k → lt O[i]! x = false
  | 0 => ⟨fun h => absurd rfl h, fun i _ h => absurd h (Nat.not_lt_zero _)⟩
  | k + 1 => by
    obtain ⟨h1, h2⟩ := atF_spec lt O x k
    rw [atF]
    split
    · rename_i h
      exact ⟨fun _ => by rw [Nat.add_sub_cancel]; exact h, fun i a b => by omega⟩
    · rename_i h
      refine ⟨h1, fun i a b => ?_⟩
      by_cases e : i = k
      · subst e; simpa using h
      · exact h2 i a (by omega)
omit [DecidableEq α] in
theorem get_mem {O : List α} {i : Nat} (h : i < O.length) : O[i]! ∈ O := by
  rw [getElem!_pos O i h]; exact List.getElem_mem h
theorem insS_mem (lt : α → α → Bool) (O : List α) (x y : α) : y ∈ insS lt O x ↔ y = x ∨ y ∈ O := by
  unfold insS
  split
  · rename_i h
    obtain ⟨i, h1, h2⟩ := (smF_iff O x _).1 h
    refine ⟨.inr, ?_⟩
    rintro (rfl | h3)
    · rw [← h2]; exact get_mem h1
    · exact h3
  · have e := List.take_append_drop (atF lt O x O.length) O
    have h : y ∈ O ↔ y ∈ O.take (atF lt O x O.length) ∨ y ∈ O.drop (atF lt O x O.length) := by rw [← List.mem_append, e]
    rw [h, List.mem_append, List.mem_cons]
    constructor
    · rintro (h | h | h) <;> simp [h]
    · rintro (h | h | h) <;> simp [h]
include T
theorem insS_asc {O : List α} {x : α} (hx : p x) (hp : ∀ y ∈ O, p y) (h : O.Pairwise (fun a b => lt a b = true)) : (insS lt O x).Pairwise (fun a b => lt a b = true) := by
  unfold insS
  split
  · exact h
  · rename_i hs
    have hns : ∀ i, i < O.length → O[i]! ≠ x := fun i hi e => hs ((smF_iff O x _).2 ⟨i, hi, e⟩)
    obtain ⟨s1, s2⟩ := atF_spec lt O x O.length
    have hle := atF_le lt O x O.length
    generalize atF lt O x O.length = m at *
    have hget : ∀ i j, i < j → j < O.length → lt O[i]! O[j]! = true := fun i j h1 h2 => by
      rw [getElem!_pos O i (by omega), getElem!_pos O j h2]
      exact List.pairwise_iff_getElem.1 h i j (by omega) h2 h1
    have hlo : ∀ y ∈ O.take m, lt y x = true := fun y hy => by
      obtain ⟨i, hi, rfl⟩ := List.mem_iff_getElem.1 hy
      rw [List.length_take] at hi
      rw [List.getElem_take, ← getElem!_pos O i (by omega)]
      have h1 := s1 (by omega)
      by_cases e : i = m - 1
      · rw [e]; exact h1
      · exact T.tr _ _ _ (hp _ (get_mem (by omega))) (hp _ (get_mem (by omega))) hx (hget i (m - 1) (by omega) (by omega)) h1
    have hhi : ∀ y ∈ O.drop m, lt x y = true := fun y hy => by
      obtain ⟨i, hi, rfl⟩ := List.mem_iff_getElem.1 hy
      rw [List.length_drop] at hi
      rw [List.getElem_drop, ← getElem!_pos O (m + i) (by omega)]
      rcases T.tri _ _ (hp _ (get_mem (show m + i < O.length by omega))) hx with h3 | h3 | h3
      · rw [s2 (m + i) (by omega) (by omega)] at h3; cases h3
      · exact absurd h3 (hns _ (by omega))
      · exact h3
    have hpq : (O.take m ++ O.drop m).Pairwise (fun a b => lt a b = true) := by rw [List.take_append_drop]; exact h
    obtain ⟨q1, q2, q3⟩ := List.pairwise_append.1 hpq
    refine List.pairwise_append.2 ⟨q1, List.pairwise_cons.2 ⟨hhi, q2⟩, fun a ha b hb => ?_⟩
    rcases List.mem_cons.1 hb with rfl | hb
    · exact hlo a ha
    · exact q3 a ha b hb
/-- both ways of sorting -/
theorem both {l : List α} (hp : ∀ y ∈ l, p y) : comL (srt lt l) = l.foldl (insS lt) [] := by
  have H : ∀ (C O : List α), (∀ y ∈ C, p y) → (∀ y ∈ O, p y) → O.Pairwise (fun a b => lt a b = true) → (C.foldl (insS lt) O).Pairwise (fun a b => lt a b = true) ∧ ∀ y, y ∈ C.foldl (insS lt) O ↔ y ∈ C ∨ y ∈ O := by
    intro C
    induction C with
    | nil => intro O _ _ h; exact ⟨h, fun y => by simp⟩
    | cons x C ih =>
      intro O h1 h2 h3
      have hx := h1 x (by simp)
      obtain ⟨i1, i2⟩ := ih (insS lt O x) (fun y hy => h1 y (List.mem_cons_of_mem _ hy)) (fun y hy => by
        rcases (insS_mem lt O x y).1 hy with rfl | hy
        · exact hx
        · exact h2 y hy) (insS_asc T hx h2 h3)
      refine ⟨i1, fun y => ?_⟩
      rw [List.foldl_cons, i2, insS_mem, List.mem_cons]
      constructor
      · rintro (h | h | h) <;> simp [h]
      · rintro ((h | h) | h) <;> simp [h]
  obtain ⟨h1, h2⟩ := H l [] hp (by simp) List.Pairwise.nil
  have hps : ∀ y ∈ srt lt l, p y := fun y hy => hp y ((srt_mem lt l y).1 hy)
  refine sorted_eq T (fun y hy => hps y ((comL_mem _ y).1 hy)) (fun y hy => ?_) (comL_asc T hps (srt_asc T hp)) h1 fun y => ?_
  · rcases (h2 y).1 hy with h3 | h3
    · exact hp y h3
    · cases h3
  · rw [comL_mem, srt_mem, h2]; simp
end
/-! ### equal neighbours struck in place -/
section
variable {α : Type} [Inhabited α]
theorem drop_cons {l : List α} {k : Nat} (h : k < l.length) : l.drop k = l[k]! :: l.drop (k + 1) := by
  rw [getElem!_pos l k h]; exact List.drop_eq_getElem_cons h
theorem take_snoc {l : List α} {k : Nat} (h : k < l.length) : l.take (k + 1) = l.take k ++ [l[k]!] := by
  rw [getElem!_pos l k h, List.take_succ_eq_append_getElem h]
theorem get_same {c l : List α} {m i : Nat} (h : c.drop m = l.drop m) (hi : m ≤ i) : c[i]! = l[i]! := by
  have := congrArg (fun x => x[i - m]?) h
  simp only [List.getElem?_drop, show m + (i - m) = i by omega] at this
  rw [List.getElem!_eq_getElem?_getD, List.getElem!_eq_getElem?_getD, this]
variable [DecidableEq α]
def CA (l F : List α) (k : Nat) : Prop := 1 ≤ k ∧ k ≤ l.length ∧ F = l.take k ++ comT l[k - 1]! (l.drop k)
def CB (l F c : List α) (k0 k k2 : Nat) : Prop :=
  c.length = l.length ∧ 1 ≤ k ∧ k + 1 ≤ k0 + k2 ∧ 1 ≤ k2 ∧ k0 + k2 ≤ l.length ∧ c.drop (k0 + k2 - 1) = l.drop (k0 + k2 - 1) ∧ F = c.take k ++ comT l[k0 + k2 - 1]! (l.drop (k0 + k2))
theorem CA.start {l : List α} (h : 0 < l.length) : CA l (comL l) 1 := by
  cases l with
  | nil => simp at h
  | cons a r => exact ⟨Nat.le_refl _, by simp, rfl⟩
theorem CA.next {l F : List α} {k : Nat} (h : CA l F k) (hk : k < l.length) (hne : l[k]! ≠ l[k - 1]!) : CA l F (k + 1) := by
  obtain ⟨h1, h2, h3⟩ := h
  refine ⟨by omega, hk, ?_⟩
  rw [drop_cons hk, comT, if_neg hne] at h3
  rw [h3, take_snoc hk, Nat.add_sub_cancel, List.append_assoc]; rfl
theorem CA.stop {l F : List α} (h : CA l F l.length) : F = l := by
  obtain ⟨_, _, h3⟩ := h
  rw [List.take_length, List.drop_length] at h3
  simpa [comT] using h3
theorem CB.start {l F : List α} {k : Nat} (h : CA l F k) (hk : k < l.length) (he : l[k]! = l[k - 1]!) : CB l F l k k 1 := by
  obtain ⟨h1, h2, h3⟩ := h
  refine ⟨rfl, h1, Nat.le_refl _, Nat.le_refl _, hk, rfl, ?_⟩
  rw [drop_cons hk, comT, if_pos he, ← he] at h3
  rw [h3, Nat.add_sub_cancel]
theorem CB.same {l F c : List α} {k0 k k2 : Nat} (h : CB l F c k0 k k2) (hk : k0 + k2 < l.length) (he : c[k0 + k2]! = c[k0 + k2 - 1]!) : CB l F c k0 k (k2 + 1) := by
  obtain ⟨h1, h2, h3, h4, h5, h6, h7⟩ := h
  rw [get_same h6 (i := k0 + k2) (by omega), get_same h6 (Nat.le_refl _)] at he
  refine ⟨h1, h2, by omega, by omega, by omega, ?_, ?_⟩
  · have := congrArg (List.drop 1) h6
    rw [List.drop_drop, List.drop_drop, show k0 + k2 - 1 + 1 = k0 + (k2 + 1) - 1 by omega] at this
    exact this
  · rw [drop_cons hk, comT, if_pos he, ← he] at h7
    rw [h7, show k0 + (k2 + 1) - 1 = k0 + k2 by omega]; rfl
theorem CB.other {l F c : List α} {k0 k k2 : Nat} (h : CB l F c k0 k k2) (hk : k0 + k2 < l.length) (hne : c[k0 + k2]! ≠ c[k0 + k2 - 1]!) : CB l F (c.set k c[k0 + k2]!) k0 (k + 1) (k2 + 1) := by
  obtain ⟨h1, h2, h3, h4, h5, h6, h7⟩ := h
  have he := get_same h6 (i := k0 + k2) (by omega)
  rw [he, get_same h6 (Nat.le_refl _)] at hne
  refine ⟨by rw [List.length_set]; exact h1, by omega, by omega, by omega, by omega, ?_, ?_⟩
  · have := congrArg (List.drop 1) h6
    rw [List.drop_drop, List.drop_drop, show k0 + k2 - 1 + 1 = k0 + (k2 + 1) - 1 by omega] at this
    rw [List.drop_set_of_lt (by omega)]
    exact this
  · rw [drop_cons hk, comT, if_neg hne] at h7
    have hkc : k < (c.set k c[k0 + k2]!).length := by rw [List.length_set]; omega
    have hg : (c.set k c[k0 + k2]!)[k]! = c[k0 + k2]! := by rw [getElem!_pos _ k hkc, List.getElem_set_self]
    rw [h7, take_snoc hkc, hg, he, List.take_set_of_le (Nat.le_refl _), show k0 + (k2 + 1) - 1 = k0 + k2 by omega, List.append_assoc]; rfl
theorem CB.stop {l F c : List α} {k0 k k2 : Nat} (h : CB l F c k0 k k2) (hk : k0 + k2 = l.length) : F = c.take k ∧ k < c.length := by
  obtain ⟨h1, h2, h3, h4, h5, h6, h7⟩ := h
  rw [hk, List.drop_length] at h7
  exact ⟨by simpa [comT] using h7, by omega⟩
end
end SortM
