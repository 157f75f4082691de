/-
  Rows of words as values: plain facts, for any program.
-/
import Derived.Test.YtiklebonkpjlpaaDoorMem
import Derived.Test.YtiklebonkpjlpaaDoorWideMath
import Derived.ChangeKeysEq
namespace WideV
open Go WideM
/-- m words that are n's -/
def cells (m n : Nat) : Array Value := ((List.range m).map fun i => Value.int .u64 (wd n i : Nat)).toArray
@[simp] theorem cells_size (m n : Nat) : (cells m n).size = m := by simp [cells]
theorem cells_get {m n i : Nat} (h : i < m) : (cells m n)[i]? = some (.int .u64 (wd n i : Nat)) := by simp [cells, h]
theorem cells_is {m n i x : Nat} (h : i < m) (hx : wd n i = x) : (cells m n)[i]? = some (.int .u64 (x : Nat)) := by rw [cells_get h, hx]
theorem cells_at {m n i x : Nat} (h : i < m) (hx : wd n i = x) : (cells m n)[i]'(by simp [h]) = .int .u64 (x : Nat) := by subst hx; simp [cells]
theorem cells_set {m n k x : Nat} (hx : x < B) : (cells m n).setIfInBounds k (.int .u64 (x : Nat)) = cells m (put n k x) := by
  apply Array.ext_getElem?
  intro i
  by_cases hi : i < m
  · rw [cells_get hi, wd_put n k x i hx]
    by_cases e : i = k
    · subst e
      simp [Array.getElem?_setIfInBounds_self, hi]
    · rw [if_neg e, Array.getElem?_setIfInBounds_ne (fun h => e h.symm), cells_get hi]
  · rw [Array.getElem?_eq_none (by simp; omega), Array.getElem?_eq_none (by simp; omega)]
theorem cells_one (m n : Nat) : (cells m n).all (·.oneCell') = true := by
  rw [Array.all_eq_true]
  intro i hi
  simp [cells]
  rfl
theorem cells_inj {m a b : Nat} (ha : a < B ^ m) (hb : b < B ^ m) (h : cells m a = cells m b) : a = b := by
  refine ext_words ha hb fun i hi => ?_
  have := congrArg (·[i]?) h
  simp only [cells_get hi, Option.some.injEq, Value.int.injEq, Int.ofNat_inj, true_and] at this
  exact this
/-- eight cells, one by one -/
@[simp] theorem fold8 (m n : Nat) (h0 : 0 < (cells m n).size) (h1 : 1 < (cells m n).size) (h2 : 2 < (cells m n).size) (h3 : 3 < (cells m n).size) (h4 : 4 < (cells m n).size) (h5 : 5 < (cells m n).size) (h6 : 6 < (cells m n).size) (h7 : 7 < (cells m n).size) (hm : m = 8) :
    #[(cells m n)[0], (cells m n)[1], (cells m n)[2], (cells m n)[3], (cells m n)[4], (cells m n)[5], (cells m n)[6], (cells m n)[7]] = cells m n := by
  subst hm
  simp [cells, List.range_succ]
section
variable {P : Program}
theorem eqItems_words (d : Nat) {e : TypeId} (he : P.underlying e = some (.int .u64)) (w : World) (m a b : Nat) : ∀ is : List Nat, (∀ i ∈ is, i < m) →
    (Op.eqItems (d + 1) e 1 (cells m a) (cells m b) is).run P w = .ok (is.all fun i => wd a i == wd b i) w
  | [], _ => by simp [Op.eqItems]
  | i :: is, h => by
    have hi := h i (List.mem_cons_self ..)
    have hp : P.plainKey e = true := by simp [Program.plainKey, he]
    have ih := eqItems_words d he w m a b is (fun j hj => h j (List.mem_cons_of_mem _ hj))
    simp only [Op.eqItems, Sem.run_bind, Nat.mul_one, run_part_plain w hp (cells_get hi), Result.andThen_ok, run_equalIn_int w d e .u64 .u64 _ _ he]
    by_cases hc : wd a i = wd b i
    · simp [hc, ih]
    · have : ((wd a i : Nat) : Int) ≠ (wd b i : Nat) := fun h => hc (Int.ofNat_inj.1 h)
      simp [hc, this]
theorem eql_words {t e : TypeId} {m : Nat} (hu : P.underlying t = some (.array m e)) (he : P.underlying e = some (.int .u64)) (hc : P.cellsOf e = 1) (a b : Nat) (ha : a < B ^ m) (hb : b < B ^ m) (w : World) :
    (Op.equalIn 10000 t (.agg (cells m a)) (.agg (cells m b))).run P w = .ok (eqB a b) w := by
  obtain ⟨i, hi⟩ := info_of_underlying he
  rw [run_equalIn_array w 9999 (cells m a) (cells m b) hu hi, hc, eqItems_words 9998 he w m a b _ (fun i hi => List.mem_range.1 hi)]
  congr 1
  unfold eqB
  rw [Bool.eq_iff_iff, List.all_eq_true, decide_eq_true_eq]
  refine ⟨fun h => ext_words ha hb fun i hi => by simpa using h i (List.mem_range.2 hi), fun h => ?_⟩
  subst h
  intro i _
  simp
theorem eql_self {t e : TypeId} {m : Nat} (hu : P.underlying t = some (.array m e)) (he : P.underlying e = some (.int .u64)) (hc : P.cellsOf e = 1) (a : Nat) (w : World) :
    (Op.equalIn 10000 t (.agg (cells m a)) (.agg (cells m a))).run P w = .ok true w := by
  obtain ⟨i, hi⟩ := info_of_underlying he
  rw [run_equalIn_array w 9999 (cells m a) (cells m a) hu hi, hc, eqItems_words 9998 he w m a a _ (fun i hi => List.mem_range.1 hi)]
  simp
end
end WideV
