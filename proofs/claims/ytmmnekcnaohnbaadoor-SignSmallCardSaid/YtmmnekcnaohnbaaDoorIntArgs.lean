/-
  Arguments of layer 5, handed in as data: structs of a sign and eight words are numbers with a sign.
-/
import Derived.Test.YtmmnekcnaohnbaaDoorLow2
import Derived.Test.YtmmnekcnaohnbaaDoorInt
import Derived.WideShapes
import Derived.ChangeSame
namespace Go.Proofs.YtmmnekcnaohnbaaDoor.SignW
open Go.RowKit Go.WideShapes Go.ChangeShapes
open WideM WideV
section
variable {P : Program} {H : Type} {enc : TypeId × Value → H} {w : World} {base : Nat} {sp : Nat → Bool} {held : Bool}
/-- cells that read as an array of integers -/
theorem arr_ints {t e : TypeId} {n fuel : Nat} {k : IntKind} {l : List Value} {x : DataW H × List MemPlace}
    (ht : P.underlying t = some (.array n e)) (he : P.underlying e = some (.int k)) (hce : P.cellsOf e = 1) (hct : P.cellsOf t = n) (hf : DataW.trod enc P w base sp held fuel t l = some x) :
    ∃ zs : List Int, l = zs.map (Value.int k) ∧ zs.length = n ∧ ∀ z ∈ zs, (Lit.int k z).wf = true := by
  obtain ⟨xs, m, _, _, hl, hxl, hx⟩ := DataW.trod_array ht hf
  rw [hct] at hl
  rw [hce] at hx
  have each : ∀ i, i < n → ∃ z, l[i]? = some (.int k z) ∧ (Lit.int k z).wf = true := by
    intro i hi
    have h1 := hx i hi
    have h2 : xs[i]? = some (xs[i]'(by omega)) := List.getElem?_eq_getElem _
    rw [h2] at h1
    obtain ⟨z, hc, _, hw⟩ := DataW.trod_int he h1
    refine ⟨z, ?_, hw⟩
    have := congrArg (·[0]?) hc
    simpa [List.getElem?_take, List.getElem?_drop] using this
  refine ⟨(List.range n).map fun i => intOf (l[i]?.getD .nilIface), ?_, by simp, ?_⟩
  · apply List.ext_getElem?
    intro i
    by_cases hi : i < n
    · obtain ⟨z, hz, _⟩ := each i hi
      simp [hi, hz, intOf]
    · simp [hi]; omega
  · intro z hz
    obtain ⟨i, hi, rfl⟩ := List.mem_map.1 hz
    rw [List.mem_range] at hi
    obtain ⟨z, hz, hw⟩ := each i hi
    rw [hz]; exact hw
end
section
variable {H : Type} {enc : TypeId × Value → H} {w : World} {base b0 : Nat} {sp : Nat → Bool} {held : Bool} {r : Reach} {v : Value} {d : DataW H} {p : List MemPlace}
set_option maxRecDepth 100000 in
theorem open_int (hv : Value.okWide Tryd.prog w r b0 26 v) (h : DataW.Trod enc Tryd.prog w base sp held 26 v d p) : ∃ (s : Bool) (a : Nat), a < M ∧ v = iv s a := by
  obtain ⟨cs, rfl, hsz⟩ := okWide_struct Tryd.underlying26 hv
  obtain ⟨fuel, hf⟩ := h
  obtain ⟨y0, y1, n, _, hl, h0, h1⟩ := trod_struct2 Tryd.underlying26 hf
  have hc0 : Tryd.prog.cellsOf 4 = 1 := by kernel_rfl
  have hc1 : Tryd.prog.cellsOf 24 = 8 := by kernel_rfl
  have hc : Tryd.prog.cellsOf 26 = 9 := by kernel_rfl
  have ecs : (Value.agg cs).cells.toList = cs.toList := rfl
  rw [ecs] at h0 h1 hl
  rw [hc] at hl
  replace h0 : DataW.trod enc Tryd.prog w base sp held n 4 ((cs.toList.drop 0).take (Tryd.prog.cellsOf 4)) = some y0 := h0
  replace h1 : DataW.trod enc Tryd.prog w base sp held n 24 ((cs.toList.drop 1).take (Tryd.prog.cellsOf 24)) = some y1 := h1
  rw [hc0, List.drop_zero] at h0
  rw [hc1] at h1
  obtain ⟨zs, hzs, hzl, hw⟩ := arr_ints Tryd.underlying24 Tryd.underlying22 (by kernel_rfl) hc1 h1
  obtain ⟨a, ha, ea⟩ := WideA.wide_of hzl hw
  obtain ⟨s, hs, _⟩ := DataW.trod_bool Tryd.underlying4 h0
  refine ⟨s, a, ha, ?_⟩
  have e : cs.toList = [.bool s] ++ (cells 8 a).toList := by
    rw [← List.take_append_drop 1 cs.toList, hs, ← ea]
    congr 1
    rw [← hzs, List.take_of_length_le (by simp [hl])]
  have e2 : cs = ([Value.bool s] ++ (cells 8 a).toList).toArray := by rw [← e]
  rw [e2]
  rfl
end
end Go.Proofs.YtmmnekcnaohnbaaDoor.SignW
