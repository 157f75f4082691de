/-
  Slices of structs, for any program: a slice that is built, as a block of known cells.
-/
import Derived.Test.YtoahcjjndjdljaaBase
import Derived.Great.BuildSlice
namespace KM
open Go Go.RowKit
/-- the cells of a slice that is built of these parts -/
def builtS (P : Program) (t : TypeId) (n : Nat) (ps : List (Nat × Value)) : Option (TypeId × Array Value) :=
  match P.underlying t with
  | some (.slice e) => match P.info? e with
    | some ie => match ie.zero with
      | some z => if n * ie.size > 2 ^ 24 then none else if n * ie.size = 0 then none else
          (Instr.fill (fun i => some (i * ie.size, ie.size)) ((Array.range (n * ie.size)).map (z.cells[· % z.cells.size]!)) ps).map fun c => (e, c)
      | none => none
    | none => none
  | _ => none
class SliceB (P : Program) (t : TypeId) (n : Nat) (ps : List (Nat × Value)) (e : outParam TypeId) (c : outParam (Array Value)) : Prop where
  out : builtS P t n ps = some (e, c)
theorem run_slice {P : Program} {t e : TypeId} {n : Nat} {ps : Array (Nat × Value)} {c : Array Value} (h : builtS P t n ps.toList = some (e, c)) (w : World) :
    (Instr.buildSlice t n ps).run P w = .ok (.slice (some ⟨w.heap.size, 0, none⟩) n n) (w.alloc (.cells c e)) := by
  unfold builtS at h
  cases hu : P.underlying t with
  | none => rw [hu] at h; cases h
  | some dd =>
    rw [hu] at h
    cases dd with
    | slice e' =>
      cases hi : P.info? e' with
      | none => simp only [hi] at h; cases h
      | some ie =>
        simp only [hi] at h
        cases hz : ie.zero with
        | none => simp only [hz] at h; cases h
        | some z =>
          simp only [hz] at h
          split at h
          · cases h
          · rename_i h1
            split at h
            · cases h
            · rename_i h2
              obtain ⟨c', h3, h4⟩ := Option.map_eq_some_iff.1 h
              obtain ⟨rfl, rfl⟩ := Prod.mk.inj h4
              exact run_buildSlice w t e' n ps c' ie z hu hi hz h1 h2 h3
    | _ => cases h
/-- a round's end: blocks that are not told of any more -/
theorem ex_weak {W : World} {L Lc : List Ent} {u : KW W L} {A B : Prop} (hs : Sub Lc L) (a : A) (b : B) : ∃ v : KW W Lc, A ∧ u.w = v.w ∧ B :=
  let ⟨v, e⟩ := KW.weak (h := hs) u
  ⟨v, a, e, b⟩
section
variable {P : Program} {ops : Array Oper} {Q : Exit → Act → World → Prop} {rest : List Oper} {a : Act} {W : World} {L : List Ent} {u : KW W L} {w : World}
  {d : Tmp} {t ty e : TypeId} {ps : String} {af : Array Edge} {n : Nat} {xs : Array (Nat × Operand)} {c : Array Value}
theorem ck_slice (h : wpList P ops Q (⟨some d, .buildSlice t n xs, ty, ps, af, none⟩ :: rest) a w) : wpList P ops Q (⟨some d, .buildSlice t n xs, ty, ps, af, none⟩ :: rest) a w := h
theorem ls_slice {vs : List (Nat × Value)} (hv : (xs.map fun (i, x) => (i, a.eval x)).toList = vs) (hb : SliceB P t n vs e c) (h : ∀ (g : Nat) (u' : KW W (⟨g, c, e⟩ :: L)), wpList P ops Q rest (a.put (some d) (.slice (some ⟨g, 0, none⟩) n n)) u'.w) :
    wpList P ops Q (⟨some d, .buildSlice t n xs, ty, ps, af, none⟩ :: rest) a u.w := by
  refine wpList_plain rfl fun K hK => ?_
  unfold Oper.wp execOp
  have hr : (Instr.buildSlice t n (xs.map fun (i, x) => (i, a.eval x))).run P u.w = .ok (.slice (some ⟨u.w.heap.size, 0, none⟩) n n) (u.alloc c e).w := run_slice (by rw [hv]; exact hb.out) u.w
  simp only [Sem.run_bind, hr, Result.andThen_ok, Sem.run_pure]
  exact hK _ _ (h _ (u.alloc c e))
theorem ls_slice1 {x0 : Operand} {c0 : Array Value} (h0 : a.eval x0 = .agg c0) (hb : SliceB P t n [(0, .agg c0)] e c)
    (h : ∀ (g : Nat) (u' : KW W (⟨g, c, e⟩ :: L)), wpList P ops Q rest (a.put (some d) (.slice (some ⟨g, 0, none⟩) n n)) u'.w) :
    wpList P ops Q (⟨some d, .buildSlice t n #[(0, x0)], ty, ps, af, none⟩ :: rest) a u.w :=
  ls_slice (by simp only [List.map_toArray, List.map_cons, List.map_nil, h0]) hb h
theorem ls_slice2 {x0 x1 : Operand} {c0 c1 : Array Value} (h0 : a.eval x0 = .agg c0) (h1 : a.eval x1 = .agg c1) (hb : SliceB P t n [(0, .agg c0), (1, .agg c1)] e c)
    (h : ∀ (g : Nat) (u' : KW W (⟨g, c, e⟩ :: L)), wpList P ops Q rest (a.put (some d) (.slice (some ⟨g, 0, none⟩) n n)) u'.w) :
    wpList P ops Q (⟨some d, .buildSlice t n #[(0, x0), (1, x1)], ty, ps, af, none⟩ :: rest) a u.w :=
  ls_slice (by simp only [List.map_toArray, List.map_cons, List.map_nil, h0, h1]) hb h
theorem ls_slice3 {x0 x1 x2 : Operand} {c0 c1 c2 : Array Value} (h0 : a.eval x0 = .agg c0) (h1 : a.eval x1 = .agg c1) (h2 : a.eval x2 = .agg c2) (hb : SliceB P t n [(0, .agg c0), (1, .agg c1), (2, .agg c2)] e c)
    (h : ∀ (g : Nat) (u' : KW W (⟨g, c, e⟩ :: L)), wpList P ops Q rest (a.put (some d) (.slice (some ⟨g, 0, none⟩) n n)) u'.w) :
    wpList P ops Q (⟨some d, .buildSlice t n #[(0, x0), (1, x1), (2, x2)], ty, ps, af, none⟩ :: rest) a u.w :=
  ls_slice (by simp only [List.map_toArray, List.map_cons, List.map_nil, h0, h1, h2]) hb h
theorem ls_slice4 {x0 x1 x2 x3 : Operand} {c0 c1 c2 c3 : Array Value} (h0 : a.eval x0 = .agg c0) (h1 : a.eval x1 = .agg c1) (h2 : a.eval x2 = .agg c2) (h3 : a.eval x3 = .agg c3) (hb : SliceB P t n [(0, .agg c0), (1, .agg c1), (2, .agg c2), (3, .agg c3)] e c)
    (h : ∀ (g : Nat) (u' : KW W (⟨g, c, e⟩ :: L)), wpList P ops Q rest (a.put (some d) (.slice (some ⟨g, 0, none⟩) n n)) u'.w) :
    wpList P ops Q (⟨some d, .buildSlice t n #[(0, x0), (1, x1), (2, x2), (3, x3)], ty, ps, af, none⟩ :: rest) a u.w :=
  ls_slice (by simp only [List.map_toArray, List.map_cons, List.map_nil, h0, h1, h2, h3]) hb h
end
end KM
