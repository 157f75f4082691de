/-
  Rows of spots, handed in as data.
-/
import Derived.Test.YtacicfmalhhceaaGreatDoorSpLaws5
import Derived.Test.YtacicfmalhhceaaGreatDoorSpArgs
import Derived.Deep.Slices
namespace KM
open Go Go.RowKit
/-- an argument that is a row of structs -/
theorem open_rows {P : Program} {H : Type} {enc : TypeId × Value → H} {w : World} {b0 base : Nat} {sp : Nat → Bool} {held : Bool} {r : Reach} {t e : TypeId} {v : Value} {d : DataW H} {p : List MemPlace} {α : Type} {E : α → Array Value} {k : Nat} {Q : α → Prop}
    (R : RowT P t e k E) (hC : P.cellsOf e = k) (hv : Value.okWide P w r b0 t v) (h : DataW.Trod enc P w base sp held t v d p) (rd : ∀ cs, Read P enc w base sp held e cs → ∃ x, Q x ∧ cs = (E x).toList) :
    ∃ l : List α, (∀ x ∈ l, Q x) ∧ RowIn E w l v := by
  obtain ⟨a0, len, cap, rfl⟩ := Go.WideShapes.okWide_slice R.und hv
  obtain ⟨fuel, hf⟩ := h
  rcases Go.Deep.open_slice R.und hf with ⟨hcs, _⟩ | ⟨a, len', cap', m, n, D, Pl, hcs, _, hl, hm, hmm, _, hi⟩
  · simp [Value.cells] at hcs
    obtain ⟨rfl, rfl, rfl⟩ := hcs
    exact ⟨[], (fun x hx => by cases hx), .inl ⟨rfl, rfl⟩⟩
  · simp [Value.cells] at hcs
    obtain ⟨rfl, rfl, rfl⟩ := hcs
    have hlm : len ≤ m := by rw [hmm]; split <;> omega
    have key : ∀ j, j ≤ len → ∃ l : List α, l.length = j ∧ (∀ x ∈ l, Q x) ∧ ∀ i u, (flat E l)[i]? = some u → w.cell? (a.add i) = some u := by
      intro j
      induction j with
      | zero => exact fun _ => ⟨[], rfl, fun x hx => (by cases hx), fun i u hu => by simp [flat] at hu⟩
      | succ j ih =>
        intro hj
        obtain ⟨l, h1, h2, h3⟩ := ih (by omega)
        obtain ⟨cs', hc, ht'⟩ := hi j (by omega)
        rw [hC] at hc
        obtain ⟨_, hcl, hat⟩ := World.cells?_some hc
        obtain ⟨x, hQ, hx⟩ := rd cs' ⟨_, _, ht'⟩
        refine ⟨l ++ [x], by rw [List.length_append, h1]; rfl, fun y hy => ?_, fun i u hu => ?_⟩
        · rcases List.mem_append.1 hy with hy | hy
          · exact h2 y hy
          · rw [List.mem_singleton] at hy; rw [hy]; exact hQ
        · rw [flat_app] at hu
          have hfl : (flat E l).length = j * k := by rw [flat_len R.size, h1]
          by_cases hij : i < j * k
          · rw [List.getElem?_append_left (by rw [hfl]; exact hij)] at hu
            exact h3 i u hu
          · rw [List.getElem?_append_right (by rw [hfl]; omega), hfl] at hu
            have hfx : flat E [x] = cs' := by rw [hx]; simp [flat]
            rw [hfx] at hu
            obtain ⟨hlt, _⟩ := List.getElem?_eq_some_iff.1 hu
            have := hat (i - j * k) (Nat.lt_of_lt_of_eq hlt hcl)
            rw [add_add, show j * k + (i - j * k) = i by omega] at this
            rw [this]; exact hu
    obtain ⟨l, h1, h2, h3⟩ := key len (Nat.le_refl _)
    exact ⟨l, h2, .inr ⟨a, cap, by rw [h1], h3⟩⟩
end KM
namespace Go.Proofs.YtacicfmalhhceaaGreatDoor.SpW
open Go.RowKit
open DigM WideM WideV KM DigW WideW QuotW QuotM DecM FmtW SignM SignW RatW PtW SpM SortM
set_option maxRecDepth 100000 in
theorem openSpots {H : Type} {enc : TypeId × Value → H} {w₀ : World} {base : Nat} {sp : Nat → Bool} {held : Bool} {r : Reach} {b0 : Nat} {v : Value} {d : DataW H} {p : List MemPlace} (hv : Value.okWide Tryz.prog w₀ r b0 43 v) (h : DataW.Trod enc Tryz.prog w₀ base sp held 43 v d p) :
    ∃ l : List RS, (∀ x ∈ l, RS.small x) ∧ RowIn RS.enc w₀ l v :=
  KM.open_rows rowRS (by kernel_rfl) hv h fun cs hr => by
    obtain ⟨s, n, t, m, e, b0, b1, b2, hE⟩ := readSpot hr
    exact ⟨⟨s, n, t, m, e⟩, ⟨b0, b1, b2⟩, hE⟩
set_option maxRecDepth 100000 in
theorem spotSorts_walk (l : List RS) (hl : ∀ r ∈ l, RS.small r) (v : Value) (w : World) (hr : RowIn RS.enc w l v) (ht : Tab w) : Calls Tryz.prog 4 #[v] w (Ret (.bool true) w) := by
  obtain ⟨p, c, rfl, hp, hc, hnil⟩ : ∃ (p : Option Addr) (c : Nat), v = .slice p l.length c ∧ (l.length ≠ 0 → ∃ b, p = some b) ∧ (∀ b, p = some b → ∀ j u, (flat RS.enc l)[j]? = some u → w.cell? (b.add j) = some u) ∧ (p = none → c = 0) := by
    rcases hr with ⟨rfl, rfl⟩ | ⟨b, c, rfl, h⟩
    · exact ⟨none, 0, rfl, fun h => absurd rfl h, (fun b h => by cases h), fun _ => rfl⟩
    · exact ⟨some b, c, rfl, fun _ => ⟨b, rfl⟩, (fun b' e => by cases e; exact h), fun h => by cases h⟩
  by_cases hn : l.length ≤ 12
  · by_cases hb : ∃ i, i < l.length ∧ (l[i]!).ok = false
    · exact spotSorts_bad l hl hn p c w ht hc hp hb
    · refine spotSorts_good l (all_get hl fun j hj => ?_) hn p c w ht hc hp hnil
      cases e : (l[j]!).ok with
      | true => rfl
      | false => exact absurd ⟨j, hj, e⟩ hb
  · exact spotSorts_long p l.length c (by omega) w ht
end Go.Proofs.YtacicfmalhhceaaGreatDoor.SpW
