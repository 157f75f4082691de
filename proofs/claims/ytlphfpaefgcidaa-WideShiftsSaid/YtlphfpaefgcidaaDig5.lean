/-
  The document's own Over of layer 2: a contract over the translation.
-/
import Derived.Test.YtlphfpaefgcidaaDig4
namespace Go.Proofs.Ytlphfpaefgcidaa.DigW
open Go.RowKit
open DigM
/-- the rest: digits in new memory that is not block B -/
def Rst (B : Nat) (w : World) (v : Value) (ds : List Nat) : Prop :=
  ∃ a cap, v = .slice a ds.length cap ∧ (ds.length ≤ cap ∧ cap ≤ 9223372036854775807) ∧ ∀ j, j < ds.length → ∃ g o, a = some ⟨g, o, none⟩ ∧ (B < g ∧ g < w.heap.size) ∧ w.cell? ⟨g, o + j, none⟩ = some (.int .u64 (dg ds j : Nat))
theorem Rst.rd {B : Nat} {w : World} {v : Value} {ds : List Nat} (h : Rst B w v ds) : Rd w v ds := by
  obtain ⟨a, cap, e, hc, h⟩ := h
  exact ⟨a, cap, e, hc, fun j hj => by obtain ⟨g, o, e, hg, hc⟩ := h j hj; exact ⟨g, o, e, hg.2, hc⟩⟩
theorem Own.cells' {B : Nat} {w : World} {v : Value} {ds : List Nat} (h : Own B w v ds) : ∃ a cap, v = .slice a ds.length cap ∧ (ds.length ≤ cap ∧ cap ≤ 9223372036854775807) ∧ ∀ j, j < ds.length → ∃ g o, a = some ⟨g, o, none⟩ ∧ (B ≤ g ∧ g < w.heap.size) ∧ w.cell? ⟨g, o + j, none⟩ = some (.int .u64 (dg ds j : Nat)) := by
  obtain ⟨a, cap, e, hc, hr⟩ := h.rd
  refine ⟨a, cap, e, hc, fun j hj => ?_⟩
  obtain ⟨g, o, e', hg, hcell⟩ := hr j hj
  have := h.lt g (by rw [e, e']; rfl)
  exact ⟨g, o, e', ⟨this.1, this.2⟩, hcell⟩
theorem Own.rst {B B' : Nat} {w : World} {v : Value} {ds : List Nat} (h : Own B' w v ds) (hB : B < B') : Rst B w v ds := by
  obtain ⟨a, cap, e, hc, hr⟩ := h.cells'
  exact ⟨a, cap, e, hc, fun j hj => by obtain ⟨g, o, e', hg, hcell⟩ := hr j hj; exact ⟨g, o, e', ⟨by omega, hg.2⟩, hcell⟩⟩
theorem Rst.later {B : Nat} {w w' : World} {v : Value} {ds : List Nat} (h : Rst B w v ds) (hb : Below w.heap.size w w') : Rst B w' v ds := by
  obtain ⟨a, cap, e, hc, hr⟩ := h
  exact ⟨a, cap, e, hc, fun j hj => by
    obtain ⟨g, o, e', hg, hcell⟩ := hr j hj
    exact ⟨g, o, e', ⟨hg.1, by have := hb.size; omega⟩, (hb.cell (p := ⟨g, o + j, none⟩) hg.2).trans hcell⟩⟩
theorem Rst.store {B : Nat} {w : World} {v : Value} {ds : List Nat} (h : Rst B w v ds) (p : Nat) (x : Value) : Rst B (w.setCell ⟨B, p, none⟩ x) v ds := by
  obtain ⟨a, cap, e, hc, hr⟩ := h
  exact ⟨a, cap, e, hc, fun j hj => by
    obtain ⟨g, o, e', hg, hcell⟩ := hr j hj
    have hb : Below w.heap.size w w := Below.refl _ _
    refine ⟨g, o, e', ⟨hg.1, by rw [World.size_setCell]; exact hg.2⟩, ?_⟩
    rw [← hcell]
    exact World.cell?_setCell_other _ _ _ _ (by intro h; simp only [Addr.mk.injEq] at h; omega)⟩
theorem At.later {B : Nat} {w w' : World} {g n : Nat} {o : List Nat} (h : At B w g n o) (hb : Below w.heap.size w w') : At B w' g n o := by
  have hlt := (World.ownsRow.lt h g rfl).2
  obtain ⟨h1, ⟨h2, _⟩ | ⟨g', cap, cur, e, hB, hg, h3⟩⟩ := h
  · simp at h2
  · refine ⟨h1, .inr ⟨g', cap, cur, e, hB, ?_, h3⟩⟩
    simp only [Value.slice.injEq, Option.some.injEq, Addr.mk.injEq, and_true, true_and] at e
    obtain ⟨rfl, rfl⟩ := e
    rw [hb.block g hlt]; exact hg
theorem Own.later {B : Nat} {w w' : World} {v : Value} {ds : List Nat} (h : Own B w v ds) (hb : Below w.heap.size w w') : Own B w' v ds := by
  have hlt := h.lt
  obtain ⟨h1, h2 | ⟨g, cap, cur, e, hB, hg, h3⟩⟩ := h
  · exact ⟨h1, Or.inl h2⟩
  · refine ⟨h1, .inr ⟨g, cap, cur, e, hB, ?_, h3⟩⟩
    have := (hlt g (by rw [e]; rfl)).2
    rw [hb.block g this]; exact hg
/-- a row of digits, not empty, with its address -/
theorem Own.addr {B : Nat} {w : World} {v : Value} {ds : List Nat} (h : Own B w v ds) (hp : 0 < ds.length) : ∃ g o cap, v = .slice (some ⟨g, o, none⟩) ds.length cap ∧ ∀ (j : Nat) u, (ds.map (fun d => Value.int .u64 (d : Nat)))[j]? = some u → w.cell? ((⟨g, o, none⟩ : Addr).add j) = some u := by
  obtain ⟨a, cap, rfl, _, hc⟩ := h.cells'
  obtain ⟨g, o, rfl, _, _⟩ := hc 0 hp
  refine ⟨g, o, cap, rfl, fun j u hu => ?_⟩
  rw [List.getElem?_map] at hu
  by_cases hj : j < ds.length
  · rw [List.getElem?_eq_getElem hj] at hu
    simp only [Option.map_some, Option.some.injEq] at hu
    obtain ⟨g', o', e, _, hcell⟩ := hc j hj
    simp only [Option.some.injEq, Addr.mk.injEq, and_true] at e
    obtain ⟨rfl, rfl⟩ := e
    rw [dg_lt hj] at hcell
    rw [← hu, ← hcell]
    cases j <;> rfl
  · rw [List.getElem?_eq_none (by omega)] at hu; simp at hu
theorem Own.two {B : Nat} {w : World} {v : Value} {ds es : List Nat} (h : w.ownsRow B 22 1 v (ds.length + es.length) (ds.map (fun d => Value.int .u64 (d : Nat)) ++ es.map (fun d => Value.int .u64 (d : Nat)))) : Own B w v (ds ++ es) := by
  unfold Own; rw [List.length_append, List.map_append]; exact h
def ORel (a : List Nat) (vb : Nat) (w : World) (r i : Value) (wr : World) : Prop :=
  ∃ (t : Nat) (q rs : List Nat), i = .int .i64 ((t : Int) - 1) ∧ t ≤ a.length ∧ At w.heap.size wr w.heap.size a.length q ∧ Below w.heap.size w wr ∧ Rst w.heap.size wr r rs ∧ Hid (Out a vb t q rs)
def IRel (a : List Nat) (vb k : Nat) (w : World) (r i : Value) (wr : World) : Prop :=
  ∃ (m : Nat) (q rs : List Nat), i = .int .i64 ((m : Int) - 1) ∧ m ≤ 16 ∧ At w.heap.size wr w.heap.size a.length q ∧ Below w.heap.size w wr ∧ Rst w.heap.size wr r rs ∧ Hid (In a vb k m q rs)
def OverP (a b : List Nat) (w : World) (e : Ending) (w' : World) : Prop :=
  ∃ v u q r, e = .returned (.tuple #[v, u]) ∧ Digs q ∧ Digs r ∧ val q = val a / val b ∧ val r = val a % val b ∧ q.length = a.length ∧ r.length ≤ 32 * a.length ∧ Own w.heap.size w' v q ∧ Rst w.heap.size w' u r ∧ Below w.heap.size w w'
end Go.Proofs.Ytlphfpaefgcidaa.DigW
