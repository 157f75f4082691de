/-
  Arguments handed in as data, opened piece by piece, for any program.
-/
import Derived.Test.YtpcbnciihohdjaaRows
import Derived.WideShapes
import Derived.ChangeSame
import Derived.OpenShut
namespace KM
open Go Go.RowKit Go.WideShapes Go.ChangeShapes
section
variable {P : Program} {H : Type} {enc : TypeId × Value → H} {w : World} {base : Nat} {sp : Nat → Bool} {held : Bool}
/-- the cells of l as type t can be read as data -/
def Read (P : Program) (enc : TypeId × Value → H) (w : World) (base : Nat) (sp : Nat → Bool) (held : Bool) (t : TypeId) (l : List Value) : Prop := ∃ n x, DataW.trod enc P w base sp held n t l = some x
theorem read_int {t : TypeId} {l : List Value} {k : IntKind} (ht : P.underlying t = some (.int k)) (h : Read P enc w base sp held t l) : ∃ z, l = [.int k z] ∧ (Lit.int k z).wf = true := by
  obtain ⟨n, x, h⟩ := h
  obtain ⟨z, h1, _, h2⟩ := DataW.trod_int ht h
  exact ⟨z, h1, h2⟩
theorem read_i64 {t : TypeId} {l : List Value} (ht : P.underlying t = some (.int .i64)) (h : Read P enc w base sp held t l) : ∃ z : Int, (-9223372036854775808 ≤ z ∧ z ≤ 9223372036854775807) ∧ l = [.int .i64 z] := by
  obtain ⟨z, h1, h2⟩ := read_int ht h
  exact ⟨z, bounds_i64 h2, h1⟩
theorem read_bool {t : TypeId} {l : List Value} (ht : P.underlying t = some .bool) (h : Read P enc w base sp held t l) : ∃ b, l = [.bool b] := by
  obtain ⟨n, x, h⟩ := h
  obtain ⟨z, h1, _⟩ := DataW.trod_bool ht h
  exact ⟨z, h1⟩
theorem read_struct {t : TypeId} {l : List Value} (spec : List (TypeId × Nat × Nat)) (N : Nat) (hu : P.underlying t = some (.struct (P.fieldsOf t))) (hF : (P.fieldsOf t).toList.map (fun f => (f.type, f.offset, P.cellsOf f.type)) = spec) (hN : P.cellsOf t = N)
    (h : Read P enc w base sp held t l) : l.length = N ∧ ∀ (i : Nat) (tf : TypeId) (o k : Nat), spec[i]? = some (tf, o, k) → Read P enc w base sp held tf ((l.drop o).take k) := by
  obtain ⟨n, x, h⟩ := h
  obtain ⟨xs, m, _, _, hl, hx, hi⟩ := DataW.trod_struct hu h
  refine ⟨by rw [hl, hN], fun i tf o k hs => ?_⟩
  rw [← hF, List.getElem?_map] at hs
  obtain ⟨f, hf, he⟩ := Option.map_eq_some_iff.1 hs
  simp only [Prod.mk.injEq] at he
  obtain ⟨rfl, rfl, rfl⟩ := he
  have hf' : (P.fieldsOf t)[i]? = some f := by simpa using hf
  have hlt : i < xs.length := by rw [hx]; exact (Array.getElem?_eq_some_iff.1 hf').1
  exact ⟨m, xs[i], by rw [hi i f hf', List.getElem?_eq_getElem hlt]⟩
theorem read_array {t e : TypeId} {n k : Nat} {l : List Value} (ht : P.underlying t = some (.array n e)) (hk : P.cellsOf e = k) (N : Nat) (hN : P.cellsOf t = N) (h : Read P enc w base sp held t l) :
    l.length = N ∧ ∀ i, i < n → Read P enc w base sp held e ((l.drop (i * k)).take k) := by
  obtain ⟨m, x, h⟩ := h
  obtain ⟨xs, m, _, _, hl, hx, hi⟩ := DataW.trod_array ht h
  refine ⟨by rw [hl, hN], fun i hlt => ?_⟩
  have hlt' : i < xs.length := by omega
  exact ⟨m, xs[i], by rw [← hk, hi i hlt, List.getElem?_eq_getElem hlt']⟩
theorem read_of {t : TypeId} {v : Value} {d : DataW H} {p : List MemPlace} (h : DataW.Trod enc P w base sp held t v d p) : Read P enc w base sp held t v.cells.toList := by
  obtain ⟨n, h⟩ := h
  exact ⟨n, _, h⟩
end
/-- l, from o on, is made of these pieces -/
def Pieces (l : List Value) : Nat → List (Nat × List Value) → Prop
  | o, [] => l.length = o
  | o, (k, p) :: r => (l.drop o).take k = p ∧ Pieces l (o + k) r
theorem glue {l : List Value} : ∀ (ps : List (Nat × List Value)) (o : Nat), Pieces l o ps → l.drop o = (ps.map (·.2)).flatten
  | [], o, h => by rw [List.drop_eq_nil_of_le (by have : l.length = o := h; omega)]; rfl
  | (k, p) :: r, o, ⟨h1, h2⟩ => by
    have := glue r (o + k) h2
    rw [List.map_cons, List.flatten_cons, ← this, ← h1, ← List.drop_drop, List.take_append_drop]
theorem glue0 {l : List Value} {c : Array Value} (ps : List (Nat × List Value)) (h : Pieces l 0 ps) (he : (ps.map (·.2)).flatten = c.toList) : l = c.toList := by
  rw [← he, ← glue ps 0 h, List.drop_zero]
theorem okWide_row {P : Program} {w : World} {r : Reach} {base : Nat} {t : TypeId} {v : Value} (ht : (match P.underlying t with | some (.struct _) => true | some (.array _ _) => true | _ => false) = true) (h : Value.okWide P w r base t v) : ∃ cs, v = .agg cs := by
  unfold Value.okWide at h
  cases hu : P.underlying t with
  | none => rw [hu] at ht; cases ht
  | some d =>
    rw [hu] at ht h
    cases d <;> first | (cases ht; done) | skip
    · obtain ⟨cs, h1, _⟩ := h; exact ⟨cs, h1⟩
    · obtain ⟨cs, h1, _⟩ := h; exact ⟨cs, h1⟩
/-- an argument that is a struct or an array, by its cells -/
theorem open_row {P : Program} {H : Type} {enc : TypeId × Value → H} {w : World} {b0 base : Nat} {sp : Nat → Bool} {held : Bool} {r : Reach} {t : TypeId} {v : Value} {d : DataW H} {p : List MemPlace}
    (ht : (match P.underlying t with | some (.struct _) => true | some (.array _ _) => true | _ => false) = true) (hv : Value.okWide P w r b0 t v) (h : DataW.Trod enc P w base sp held t v d p) : ∃ cs : Array Value, v = .agg cs ∧ Read P enc w base sp held t cs.toList := by
  obtain ⟨cs, rfl⟩ := okWide_row ht hv
  exact ⟨cs, rfl, read_of h⟩
end KM
