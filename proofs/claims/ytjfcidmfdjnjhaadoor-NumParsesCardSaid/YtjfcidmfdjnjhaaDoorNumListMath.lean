/-
  Plain facts on texts that are parted by a byte, and the numbers of their parts (Nu2).
-/
import Derived.Test.YtjfcidmfdjnjhaaDoorNumMath
namespace NumM
/-- a text's parts, parted by a byte; 'cur' has been read of the first one -/
def cuts (c : UInt8) (cur : List UInt8) : List UInt8 → List (List UInt8)
  | [] => [cur]
  | a :: t => if a == c then cur :: cuts c [] t else cuts c (cur ++ [a]) t
/-- the numbers of parts, or the first error -/
def readAll : List (List UInt8) → List Int × Int
  | [] => ([], 0)
  | p :: ps => if (parseE p).2 = 0 then (if (readAll ps).2 = 0 then ((parseE p).1 :: (readAll ps).1, 0) else ([], (readAll ps).2)) else ([], (parseE p).2)
def listE (l : List UInt8) (c : UInt8) : List Int × Int := if l = [] then ([], 0) else readAll (cuts c [] l)
/-- these parts are numbers, and these are they -/
def Are (ps : List (List UInt8)) (zs : List Int) : Prop := ps.map parseE = zs.map fun z => (z, 0)
theorem Are.nil : Are [] [] := rfl
theorem Are.snoc {ps : List (List UInt8)} {zs : List Int} (h : Are ps zs) (p : List UInt8) (hp : (parseE p).2 = 0) : Are (ps ++ [p]) (zs ++ [(parseE p).1]) := by
  unfold Are at h ⊢
  rw [List.map_append, List.map_append, h]
  show _ ++ [parseE p] = _ ++ [((parseE p).1, 0)]
  rw [← hp]
theorem Are.len {ps : List (List UInt8)} {zs : List Int} (h : Are ps zs) : ps.length = zs.length := by
  have := congrArg List.length h; simpa using this
theorem readAll_done : ∀ (ps : List (List UInt8)) (zs : List Int) (rest : List (List UInt8)), Are ps zs →
    readAll (ps ++ rest) = if (readAll rest).2 = 0 then (zs ++ (readAll rest).1, 0) else ([], (readAll rest).2)
  | [], zs, rest, h => by
    cases zs with
    | nil => 
      by_cases h0 : (readAll rest).2 = 0
      · rw [if_pos h0]; simp only [List.nil_append]; rw [← h0]
      · rw [if_neg h0]; simp only [List.nil_append]
        cases rest with
        | nil => exact absurd rfl h0
        | cons p r =>
          unfold readAll at h0 ⊢
          split
          · split
            · rename_i h1 h2; rw [if_pos h1, if_pos h2] at h0; exact absurd rfl h0
            · rfl
          · rfl
    | cons z zs => exact absurd h.len (by simp)
  | p :: ps, zs, rest, h => by
    cases zs with
    | nil => exact absurd h.len (by simp)
    | cons z zs =>
      unfold Are at h
      simp only [List.map_cons, List.cons.injEq] at h
      have ih := readAll_done ps zs rest h.2
      have h2 : (parseE p).2 = 0 := by rw [h.1]
      have h1 : (parseE p).1 = z := by rw [h.1]
      rw [List.cons_append, readAll, if_pos h2, ih, h1]
      by_cases h0 : (readAll rest).2 = 0
      · rw [if_pos h0, if_pos h0, if_pos rfl]; rfl
      · rw [if_neg h0, if_neg h0]; simp only; rw [if_neg h0]
theorem readAll_end (ps : List (List UInt8)) (zs : List Int) (h : Are ps zs) : readAll ps = (zs, 0) := by
  have := readAll_done ps zs [] h
  rw [List.append_nil] at this
  rw [this]; simp [readAll]
theorem readAll_bad (ps : List (List UInt8)) (zs : List Int) (p : List UInt8) (rest : List (List UInt8)) (h : Are ps zs) (hp : ¬ (parseE p).2 = 0) : readAll (ps ++ p :: rest) = ([], (parseE p).2) := by
  have e : readAll (p :: rest) = ([], (parseE p).2) := by rw [readAll, if_neg hp]
  rw [readAll_done ps zs _ h, e]; simp only; rw [if_neg hp]
/-- what lies from place f on ahead of place k -/
def seg (l : List UInt8) (f k : Nat) : List UInt8 := (l.drop f).take (k - f)
theorem seg_self (l : List UInt8) (f : Nat) : seg l f f = [] := by unfold seg; simp
theorem seg_snoc (l : List UInt8) (f k : Nat) (h : f ≤ k) (hk : k < l.length) : seg l f (k + 1) = seg l f k ++ [l[k]] := by
  unfold seg
  rw [show k + 1 - f = (k - f) + 1 from by omega, List.take_succ_eq_append_getElem (by rw [List.length_drop]; omega)]
  congr 2
  rw [List.getElem_drop]; congr 1; omega
theorem drop_at (l : List UInt8) (k : Nat) (hk : k < l.length) : l.drop k = l[k] :: l.drop (k + 1) := List.drop_eq_getElem_cons hk
theorem cuts_sep (c : UInt8) (l : List UInt8) (f k : Nat) (hk : k < l.length) (hc : l[k] = c) : cuts c (seg l f k) (l.drop k) = seg l f k :: cuts c (seg l (k + 1) (k + 1)) (l.drop (k + 1)) := by
  rw [drop_at l k hk, cuts, if_pos (by rw [hc]; exact beq_self_eq_true c), seg_self]
theorem cuts_on (c : UInt8) (l : List UInt8) (f k : Nat) (h : f ≤ k) (hk : k < l.length) (hc : ¬ l[k] = c) : cuts c (seg l f k) (l.drop k) = cuts c (seg l f (k + 1)) (l.drop (k + 1)) := by
  rw [drop_at l k hk, cuts, if_neg (by rw [beq_iff_eq]; exact hc), ← seg_snoc l f k h hk]
theorem cuts_end (c : UInt8) (l : List UInt8) (f k : Nat) (hk : l.length ≤ k) : cuts c (seg l f k) (l.drop k) = [seg l f k] := by
  rw [List.drop_of_length_le hk, cuts]
theorem cuts_start (c : UInt8) (l : List UInt8) : cuts c [] l = [] ++ cuts c (seg l 0 0) (l.drop 0) := by rw [seg_self]; rfl
theorem cuts_len (c : UInt8) : ∀ (l cur : List UInt8), (cuts c cur l).length ≤ l.length + 1
  | [], cur => by simp [cuts]
  | a :: t, cur => by
    unfold cuts
    split
    · have := cuts_len c t []; simp; omega
    · have := cuts_len c t (cur ++ [a]); simp; omega
/-- where a reading of a text stands: 'done' are the parts that lie behind it -/
def At (c : UInt8) (l : List UInt8) (k f : Nat) (done : List (List UInt8)) : Prop :=
  (k ≤ l.length ∧ f ≤ k ∧ cuts c [] l = done ++ cuts c (seg l f k) (l.drop k)) ∨ (k = l.length + 1 ∧ f = l.length + 1 ∧ cuts c [] l = done)
theorem At.start (c : UInt8) (l : List UInt8) : At c l 0 0 [] := Or.inl ⟨Nat.zero_le _, Nat.le_refl _, cuts_start c l⟩
theorem At.on {c : UInt8} {l : List UInt8} {k f : Nat} {done : List (List UInt8)} (h : At c l k f done) (hk : k < l.length) (hc : ¬ l[k] = c) : At c l (k + 1) f done := by
  rcases h with ⟨h1, h2, h3⟩ | ⟨h1, _, _⟩
  · exact Or.inl ⟨by omega, by omega, by rw [h3, cuts_on c l f k h2 hk hc]⟩
  · omega
theorem At.sep {c : UInt8} {l : List UInt8} {k f : Nat} {done : List (List UInt8)} (h : At c l k f done) (hk : k < l.length) (hc : l[k] = c) : At c l (k + 1) (k + 1) (done ++ [seg l f k]) := by
  rcases h with ⟨h1, h2, h3⟩ | ⟨h1, _, _⟩
  · exact Or.inl ⟨by omega, by omega, by rw [h3, cuts_sep c l f k hk hc, List.append_assoc]; rfl⟩
  · omega
theorem At.last {c : UInt8} {l : List UInt8} {k f : Nat} {done : List (List UInt8)} (h : At c l k f done) (hk : k = l.length) : At c l (k + 1) (k + 1) (done ++ [seg l f k]) := by
  rcases h with ⟨h1, h2, h3⟩ | ⟨h1, _, _⟩
  · exact Or.inr ⟨by omega, by omega, by rw [h3, cuts_end c l f k (by omega)]⟩
  · omega
theorem At.over {c : UInt8} {l : List UInt8} {k f : Nat} {done : List (List UInt8)} (h : At c l k f done) (hk : ¬ k ≤ l.length) : cuts c [] l = done := by
  rcases h with ⟨h1, _, _⟩ | ⟨_, _, h3⟩
  · exact absurd h1 hk
  · exact h3
theorem At.le {c : UInt8} {l : List UInt8} {k f : Nat} {done : List (List UInt8)} (h : At c l k f done) : f ≤ k ∧ k ≤ l.length + 1 := by
  rcases h with ⟨h1, h2, _⟩ | ⟨h1, h2, _⟩ <;> omega
theorem At.next {c : UInt8} {l : List UInt8} {k f : Nat} {done : List (List UInt8)} (h : At c l k f done) (hk : k ≤ l.length) (hc : k = l.length ∨ ∃ h : k < l.length, l[k] = c) : ∃ rest, cuts c [] l = done ++ seg l f k :: rest := by
  rcases h with ⟨h1, h2, h3⟩ | ⟨h1, _, _⟩
  · rcases hc with hc | ⟨hlt, hc⟩
    · exact ⟨[], by rw [h3, cuts_end c l f k (by omega)]⟩
    · exact ⟨_, by rw [h3, cuts_sep c l f k hlt hc]⟩
  · omega
end NumM
