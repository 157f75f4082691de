/-
  Texts of the layers below in one: Mem Reads Any Part Cells Fork Clos Opens Close Slc.
-/
import Derived.WalkKit
import Derived.BigQuiet
import Derived.StillTail
import Derived.Laws.Rows
import Derived.Laws.ResultCell
import Derived.Lib.Hide
import Derived.OrdersHeld
import Derived.Deep.MidRow
import Derived.Laws.StructEq
import Derived.ChangeKeysEq
import Derived.Test.YtacicfmalhhceaaGreatDoorRows
import Derived.WideShapes
import Derived.ChangeSame
import Derived.OpenShut
import Derived.Carry
import Derived.ProofKit
import Derived.Deep.DeepHandedRow
import Derived.Great.BuildSlice
/- Memory by whole blocks, for any program: a world that a call has reached since world W, whose new blocks of known contents are told by its type. Laws of the walk on aggregates (arrays, structs) by value, and one for regions that draw their order and end in a fixed tail. -/
namespace KM
open Go Go.RowKit
structure Ent where
  g : Nat
  c : Array Value
  t : TypeId
/-- a world reached since W; L: blocks that are new since W, and what they hold -/
structure KW (W : World) (L : List Ent) where
  w : World
  below : Below W.heap.size W w
  mem : ∀ e ∈ L, w.heap[e.g]? = some (.cells e.c e.t (0, 0)) ∧ W.heap.size ≤ e.g
  nodup : (L.map Ent.g).Nodup
/-- in L block g holds c -/
class Has (L : List Ent) (g : Nat) (c : outParam (Array Value)) (t : outParam TypeId) : Prop where
  out : (⟨g, c, t⟩ : Ent) ∈ L
instance Has.head {g c t L} : Has (⟨g, c, t⟩ :: L) g c t := ⟨List.mem_cons_self ..⟩
instance Has.tail {e g c t L} [h : Has L g c t] : Has (e :: L) g c t := ⟨List.mem_cons_of_mem _ h.out⟩
/-- L' is L, but block g holds c' -/
class PutAll (L : List Ent) (g : Nat) (c' : Array Value) (c : outParam (Array Value)) (L' : outParam (List Ent)) : Prop where
  out : ∃ A t B, L = A ++ ⟨g, c, t⟩ :: B ∧ L' = A ++ ⟨g, c', t⟩ :: B
instance PutAll.head {g c c' t L} : PutAll (⟨g, c, t⟩ :: L) g c' c (⟨g, c', t⟩ :: L) := ⟨[], t, L, rfl, rfl⟩
instance PutAll.tail {e g c c' L L'} [h : PutAll L g c' c L'] : PutAll (e :: L) g c' c (e :: L') := ⟨by
  obtain ⟨A, t, B, h1, h2⟩ := h.out
  exact ⟨e :: A, t, B, by rw [h1]; rfl, by rw [h2]; rfl⟩⟩
/-- L' is L, but cell j of block g holds v -/
class PutAt (L : List Ent) (g : Nat) (j : Nat) (v : Value) (c : outParam (Array Value)) (L' : outParam (List Ent)) : Prop where
  out : ∃ A t B, L = A ++ ⟨g, c, t⟩ :: B ∧ L' = A ++ ⟨g, c.setIfInBounds j v, t⟩ :: B
instance PutAt.head {g c j v t L} : PutAt (⟨g, c, t⟩ :: L) g j v c (⟨g, c.setIfInBounds j v, t⟩ :: L) := ⟨[], t, L, rfl, rfl⟩
instance PutAt.tail {e g c j v L L'} [h : PutAt L g j v c L'] : PutAt (e :: L) g j v c (e :: L') := ⟨by
  obtain ⟨A, t, B, h1, h2⟩ := h.out
  exact ⟨e :: A, t, B, by rw [h1]; rfl, by rw [h2]; rfl⟩⟩
/-- a type of rows of n cells -/
def Row (P : Program) (ty : TypeId) (n : Nat) : Prop :=
  (match P.underlying ty with | some (.struct _) => true | some (.array _ _) => true | _ => false) = true ∧ (P.info? ty).map (·.size) = some n
/-- a type's zero value, as cells -/
def Zero (P : Program) (ty : TypeId) (c : Array Value) : Prop := (P.info? ty).map (fun i => i.zero.map Value.cells) = some (some c)

section
variable {W : World} {L L' : List Ent}
theorem KW.block (u : KW W L) {g c t} [h : Has L g c t] : u.w.heap[g]? = some (.cells c t (0, 0)) := (u.mem _ h.out).1
theorem KW.new (u : KW W L) {g c t} [h : Has L g c t] : W.heap.size ≤ g := (u.mem _ h.out).2
theorem KW.lt (u : KW W L) {g c t} [h : Has L g c t] : g < u.w.heap.size := (Array.getElem?_eq_some_iff.1 (u.block (h := h))).1
@[simp] theorem KW.cell? (u : KW W L) {g c t} [h : Has L g c t] (j : Nat) : u.w.cell? ⟨g, j, none⟩ = c[j]? := cell_of_row _ _ _ _ _ _ (u.block (h := h))
@[simp] theorem KW.frozen? (u : KW W L) {g c t} [h : Has L g c t] (j : Nat) : u.w.frozen? ⟨g, j, none⟩ = false := frozen_of_row _ _ _ _ _ (u.block (h := h))
def KW.start (W : World) : KW W [] := ⟨W, Below.refl _ _, (fun _ h => by cases h), List.nodup_nil⟩
theorem KW.begin (W : World) : ∃ u : KW W [], W = u.w := ⟨KW.start W, rfl⟩
theorem KW.lt_of_mem (u : KW W L) (e : Ent) (he : e ∈ L) : e.g < u.w.heap.size := (Array.getElem?_eq_some_iff.1 (u.mem e he).1).1
theorem KW.size (u : KW W L) : W.heap.size ≤ u.w.heap.size := u.below.size
/-- behind a call that turned nothing that was there -/
def KW.later (u : KW W L) {w' : World} (h : Below u.w.heap.size u.w w') : KW W L :=
  ⟨w', u.below.trans (h.mono u.size), fun e he => ⟨(h.block e.g (u.lt_of_mem e he)).trans (u.mem e he).1, (u.mem e he).2⟩, u.nodup⟩
theorem KW.go (u : KW W L) {w' : World} (h : Below u.w.heap.size u.w w') : ∃ u' : KW W L, w' = u'.w := ⟨u.later h, rfl⟩
def KW.drew (u : KW W L) : KW W L := u.later (Below.drew (Below.refl _ _))
theorem KW.drew_w (u : KW W L) : u.drew.w = { u.w with drawn := u.w.drawn + 1 } := rfl
def KW.alloc (u : KW W L) (c : Array Value) (t : TypeId) : KW W (⟨u.w.heap.size, c, t⟩ :: L) :=
  ⟨u.w.alloc (.cells c t), u.below.alloc u.size _, fun e he => by
    rcases List.mem_cons.1 he with rfl | he
    · exact ⟨heap_alloc_new _ _, u.size⟩
    · exact ⟨(Below.heap_alloc _ _ _ (u.lt_of_mem e he)).trans (u.mem e he).1, (u.mem e he).2⟩, by
    simp only [List.map_cons, List.nodup_cons]
    refine ⟨fun h => ?_, u.nodup⟩
    obtain ⟨e, he, h1⟩ := List.mem_map.1 h
    have := u.lt_of_mem e he
    omega⟩
theorem nodup_ne {A B : List Ent} {x e : Ent} (h : ((A ++ x :: B).map Ent.g).Nodup) (he : e ∈ A ++ B) : e.g ≠ x.g := by
  rw [List.map_append, List.map_cons] at h
  have h1 := (List.nodup_append.1 h)
  have h2 := (List.nodup_cons.1 h1.2.1).1
  rcases List.mem_append.1 he with he | he
  · exact h1.2.2 _ (List.mem_map_of_mem he) _ (List.mem_cons_self ..)
  · intro hc
    exact h2 (hc ▸ List.mem_map_of_mem he)
theorem KW.ex_cell (u : KW W L) {g c j v} [h : PutAt L g j v c L'] : ∃ u' : KW W L', u.w.setCell ⟨g, j, none⟩ v = u'.w := by
  obtain ⟨A, t, B, rfl, rfl⟩ := h.out
  have hx := u.mem ⟨g, c, t⟩ (by simp)
  refine ⟨⟨u.w.setCell ⟨g, j, none⟩ v, u.below.setCell hx.2 _, fun e he => ?_, by simpa using u.nodup⟩, rfl⟩
  rcases List.mem_append.1 he with he' | he'
  · have hne := nodup_ne u.nodup (List.mem_append_left B he')
    exact ⟨(heap_setCell_other _ _ _ _ hne).trans (u.mem e (List.mem_append_left _ he')).1, (u.mem e (List.mem_append_left _ he')).2⟩
  · rcases List.mem_cons.1 he' with rfl | he'
    · exact ⟨heap_setCell_same _ _ _ _ _ _ hx.1, hx.2⟩
    · have hne := nodup_ne u.nodup (List.mem_append_right A he')
      have hm : e ∈ A ++ ⟨g, c, t⟩ :: B := List.mem_append_right _ (List.mem_cons_of_mem _ he')
      exact ⟨(heap_setCell_other _ _ _ _ hne).trans (u.mem e hm).1, (u.mem e hm).2⟩
theorem KW.ex_put {g : Nat} {c c' : Array Value} {t : TypeId} {j : Nat} {v : Value} (u : KW W (⟨g, c, t⟩ :: L)) (h : c.setIfInBounds j v = c') : ∃ u' : KW W (⟨g, c', t⟩ :: L), u.w.setCell ⟨g, j, none⟩ v = u'.w := by
  subst h
  exact u.ex_cell
theorem KW.ex_put1 {e : Ent} {g : Nat} {c c' : Array Value} {t : TypeId} {j : Nat} {v : Value} (u : KW W (e :: ⟨g, c, t⟩ :: L)) (h : c.setIfInBounds j v = c') : ∃ u' : KW W (e :: ⟨g, c', t⟩ :: L), u.w.setCell ⟨g, j, none⟩ v = u'.w := by
  subst h
  exact u.ex_cell
theorem heap_setRow_other (w : World) (g k : Nat) (cs : Array Value) (h : k ≠ g) : (w.setRow g cs).heap[k]? = w.heap[k]? := by
  simp only [World.setRow, Array.getElem?_modify]
  rw [if_neg (fun e => h e.symm)]
theorem KW.ex_row (u : KW W L) {g c c'} [h : PutAll L g c' c L'] : ∃ u' : KW W L', u.w.setRow g c' = u'.w := by
  obtain ⟨A, t, B, rfl, rfl⟩ := h.out
  have hx := u.mem ⟨g, c, t⟩ (by simp)
  have hb : Below W.heap.size W (u.w.setRow g c') :=
    ⟨u.below.os, u.below.tape, u.below.output, by rw [size_setRow]; exact u.below.size, fun k hk => (heap_setRow_other _ _ _ _ (by have := hx.2; show k ≠ g; change W.heap.size ≤ g at this; omega)).trans (u.below.block k hk)⟩
  refine ⟨⟨u.w.setRow g c', hb, fun e he => ?_, by simpa using u.nodup⟩, rfl⟩
  rcases List.mem_append.1 he with he' | he'
  · have hne := nodup_ne u.nodup (List.mem_append_left B he')
    exact ⟨(heap_setRow_other _ _ _ _ hne).trans (u.mem e (List.mem_append_left _ he')).1, (u.mem e (List.mem_append_left _ he')).2⟩
  · rcases List.mem_cons.1 he' with rfl | he'
    · exact ⟨setRow_heap _ _ _ _ _ _ hx.1, hx.2⟩
    · have hne := nodup_ne u.nodup (List.mem_append_right A he')
      have hm : e ∈ A ++ ⟨g, c, t⟩ :: B := List.mem_append_right _ (List.mem_cons_of_mem _ he')
      exact ⟨(heap_setRow_other _ _ _ _ hne).trans (u.mem e hm).1, (u.mem e hm).2⟩
end

theorem enter {P : Program} {f : FuncId} {args : Array Value} {W : World} {Q : Ending → World → Prop} (h : ∀ u : KW W [], Calls P f args u.w Q) : Calls P f args W Q := h (KW.start W)
/-! ### laws of the walk -/
/-- a call that hands back v and turns nothing that was there -/
def Ret (v : Value) (w : World) (e : Ending) (w' : World) : Prop := e = .returned v ∧ Below w.heap.size w w'
section
variable {P : Program} {ops : Array Oper} {Q : Exit → Act → World → Prop} {rest : List Oper} {a : Act} {W : World} {L L' : List Ent} {u : KW W L}
  {d : Tmp} {t ty : TypeId} {ps : String} {af : Array Edge} {x y : Operand}
theorem list_box_b {c : Array Value} (hx : a.eval x = .agg c)
    (h : ∀ (g : Nat) (u' : KW W (⟨g, c, t⟩ :: L)), Below u.w.heap.size u.w u'.w → wpList P ops Q rest (a.put (some d) (.pointer (some ⟨g, 0, none⟩))) u'.w) :
    wpList P ops Q (⟨some d, .box t x, ty, ps, af, none⟩ :: rest) a u.w := by
  refine wpList_plain rfl fun K hK => ?_
  unfold Oper.wp execOp
  have hr : (Instr.box t (a.eval x)).run P u.w = .ok (.pointer (some ⟨u.w.heap.size, 0, none⟩)) (u.alloc c t).w := by
    rw [hx]; simp [Instr.box, newVar, newRow, Value.cells, KW.alloc, go_sem]
  simp only [Sem.run_bind, hr, Result.andThen_ok, Sem.run_pure]
  exact hK _ _ (h _ (u.alloc c t) ((Below.refl _ _).alloc (Nat.le_refl _) _))
theorem list_alloc_b {c : Array Value} (hz : Zero P t c)
    (h : ∀ (g : Nat) (u' : KW W (⟨g, c, t⟩ :: L)), Below u.w.heap.size u.w u'.w → wpList P ops Q rest (a.put (some d) (.pointer (some ⟨g, 0, none⟩))) u'.w) :
    wpList P ops Q (⟨some d, .alloc t, ty, ps, af, none⟩ :: rest) a u.w := by
  obtain ⟨i, hi, hz'⟩ := Option.map_eq_some_iff.1 hz
  obtain ⟨v, hv, rfl⟩ := Option.map_eq_some_iff.1 hz'
  refine wpList_plain rfl fun K hK => ?_
  unfold Oper.wp execOp
  have hr : (Instr.alloc t true (.tuple #[])).run P u.w = .ok (.pointer (some ⟨u.w.heap.size, 0, none⟩)) (u.alloc v.cells t).w := by
    simp [Instr.alloc, zeroValue, typeInfo, hi, hv, newVar, newRow, KW.alloc, go_sem]
  simp only [Sem.run_bind, hr, Result.andThen_ok, Sem.run_pure]
  exact hK _ _ (h _ (u.alloc v.cells t) ((Below.refl _ _).alloc (Nat.le_refl _) _))
theorem list_box {c : Array Value} (hx : a.eval x = .agg c) (h : ∀ (g : Nat) (u' : KW W (⟨g, c, t⟩ :: L)), wpList P ops Q rest (a.put (some d) (.pointer (some ⟨g, 0, none⟩))) u'.w) :
    wpList P ops Q (⟨some d, .box t x, ty, ps, af, none⟩ :: rest) a u.w := list_box_b hx fun g u' _ => h g u'
theorem list_alloc {c : Array Value} (hz : Zero P t c) (h : ∀ (g : Nat) (u' : KW W (⟨g, c, t⟩ :: L)), wpList P ops Q rest (a.put (some d) (.pointer (some ⟨g, 0, none⟩))) u'.w) :
    wpList P ops Q (⟨some d, .alloc t, ty, ps, af, none⟩ :: rest) a u.w := list_alloc_b hz fun g u' _ => h g u'
theorem run_row {w : World} {g : Nat} {c : Array Value} {t' : TypeId} {fr : Nat × Nat} {n : Nat} (hg : w.heap[g]? = some (.cells c t' fr)) (hr : Row P t n) (hn : c.size = n) :
    (loadVar t ⟨g, 0, none⟩).run P w = .ok (.agg c) w := by
  obtain ⟨h1, h2⟩ := hr
  cases hd : P.underlying t with
  | none => rw [hd] at h1; simp at h1
  | some de =>
    rw [hd] at h1
    cases de with
    | struct fs => exact run_loadVar_row w g t' t c fr _ hg hd rfl (by rw [hn]; exact h2)
    | array k e => exact run_loadVar_row w g t' t c fr _ hg hd rfl (by rw [hn]; exact h2)
    | _ => simp at h1
theorem run_load (u : KW W L) {g : Nat} {c : Array Value} {t' : TypeId} {n : Nat} [h : Has L g c t'] (hr : Row P t n) (hn : c.size = n) :
    (Instr.loadAt t (.pointer (some ⟨g, 0, none⟩))).run P u.w = .ok (.agg c) u.w := by
  simp only [Instr.loadAt, Instr.sureAddr, Sem.run_bind, Sem.run_pure, Result.andThen_ok]
  exact run_row (u.block (h := h)) hr hn
theorem list_load {g : Nat} {c : Array Value} {t' : TypeId} {n : Nat} (hx : a.eval x = .pointer (some ⟨g, 0, none⟩)) [Has L g c t'] (hr : Row P t n) (hn : c.size = n)
    (h : wpList P ops Q rest (a.put (some d) (.agg c)) u.w) : wpList P ops Q (⟨some d, .load t x, ty, ps, af, none⟩ :: rest) a u.w := by
  refine wpList_plain rfl fun K hK => ?_
  unfold Oper.wp execOp
  simp only [hx, Sem.run_bind, run_load u hr hn, Result.andThen_ok, Sem.run_pure]
  exact hK _ _ h
theorem list_store {g : Nat} {c c' : Array Value} {n : Nat} (hx : a.eval x = .pointer (some ⟨g, 0, none⟩)) (hy : a.eval y = .agg c') [hp : PutAll L g c' c L'] (hr : Row P t n) (hn : c.size = n) (hn' : c'.size = n)
    (h1 : c'.all (·.oneCell') = true) (h : ∀ u' : KW W L', wpList P ops Q rest a u'.w) : wpList P ops Q (⟨none, .store t x y, ty, ps, af, none⟩ :: rest) a u.w := by
  obtain ⟨u', hu'⟩ := u.ex_row (h := hp)
  obtain ⟨A, t', B, hL, _⟩ := hp.out
  have hg := (u.mem ⟨g, c, t'⟩ (by rw [hL]; simp)).1
  refine wpList_plain rfl fun K hK => ?_
  unfold Oper.wp execOp
  simp only [hx, hy, Instr.storeAt, Instr.sureAddr, Sem.run_bind, Sem.run_pure, Result.andThen_ok, run_storeVar_row u.w g t' t c c' hg (by rw [hn']; exact hr.2) (by omega) h1]
  rw [hu']
  exact hK _ _ (h u')
/-! the same, every side condition a goal: for 'with_reducible' -/
theorem lst_load {g : Nat} {c : Array Value} {t' : TypeId} {n : Nat} (hx : a.eval x = .pointer (some ⟨g, 0, none⟩)) (hp : Has L g c t') (hr : Row P t n) (hn : c.size = n)
    (h : wpList P ops Q rest (a.put (some d) (.agg c)) u.w) : wpList P ops Q (⟨some d, .load t x, ty, ps, af, none⟩ :: rest) a u.w := list_load hx hr hn h
theorem lst_store {g : Nat} {c c' : Array Value} {n : Nat} (hx : a.eval x = .pointer (some ⟨g, 0, none⟩)) (hy : a.eval y = .agg c') (hp : PutAll L g c' c L') (hr : Row P t n) (hn : c.size = n) (hn' : c'.size = n)
    (h1 : c'.all (·.oneCell') = true) (h : ∀ u' : KW W L', wpList P ops Q rest a u'.w) : wpList P ops Q (⟨none, .store t x y, ty, ps, af, none⟩ :: rest) a u.w := list_store hx hy hr hn hn' h1 h
/-- the same in a region that draws its order -/
theorem quiet_load {gd : Option (Nat × Bool)} {K : Act → Prop} {g : Nat} {c : Array Value} {t' : TypeId} {n : Nat} (hx : a.eval x = .pointer (some ⟨g, 0, none⟩)) [Has L g c t'] (hr : Row P t n) (hn : c.size = n)
    (h : K (a.put (some d) (.agg c))) : Oper.quiet P ⟨some d, .load t x, ty, ps, af, gd⟩ a (fun w' => ∃ u : KW W L, w' = u.w) K := by
  refine ⟨.agg c, ?_, h⟩
  rintro w ⟨u, rfl⟩
  unfold Oper.quietAt execOp
  simp only [hx, Sem.run_bind, run_load u hr hn, Result.andThen_ok, Sem.run_pure]
  exact ⟨rfl, rfl⟩
theorem call {f : FuncId} {args : Array Value} {v : Value} (h : ∀ w, Calls P f args w (Ret v w)) (u : KW W L) : Calls P f args u.w fun e w'' => e = .returned v ∧ ∃ u' : KW W L, w'' = u'.w :=
  (h u.w).mono fun _ _ ⟨he, hb⟩ => ⟨he, u.go hb⟩
theorem call_same {f : FuncId} {args : Array Value} {v : Value} (h : ∀ w, Calls P f args w (fun e w' => e = .returned v ∧ w = w')) (u : KW W L) : Calls P f args u.w fun e w'' => e = .returned v ∧ ∃ u' : KW W L, w'' = u'.w :=
  (h u.w).mono fun _ _ ⟨he, hb⟩ => ⟨he, u, hb.symm⟩
theorem region {id : Nat} {l : List Oper} (hm : P.follows .mixedOrders = true) (hB : Region.lexB .any l.toArray = true)
    (h : Nonempty (KW W L) → wpQuiet P l.toArray (fun w' => ∃ u : KW W L, w' = u.w) (fun a' => ∀ w', (∃ u : KW W L, w' = u.w) → Q .normal a' w') l a) : (Code.region id l.toArray true).wp P Q a u.w :=
  wp_region_quiet (C := fun w' => ∃ u : KW W L, w' = u.w) hm hB ⟨u.drew, rfl⟩ (h ⟨u⟩)
end

/-! ### results that lie in variables -/
section
variable {P : Program} {fn : Func} {R : Ending → World → Prop} {tmps : Array Value} {W : World} {L : List Ent} {u : KW W L} {ty : TypeId} {p q : Tmp} {g n : Nat} {c : Array Value} {t : TypeId}
theorem run_cell (hp : tmps.getD p undef = .pointer (some ⟨g, 0, none⟩)) [h : Has L g c t] (hr : Row P ty n) (hn : c.size = n) :
    (asAddr (tmps.getD p undef)).run P u.w = .ok ⟨g, 0, none⟩ u.w ∧ (loadVar ty ⟨g, 0, none⟩).run P u.w = .ok (.agg c) u.w :=
  ⟨by rw [hp]; simp [asAddr], run_row (u.block (h := h)) hr hn⟩
theorem body_cell (hf : fn.results = #[.cell p ty]) (hp : tmps.getD p undef = .pointer (some ⟨g, 0, none⟩)) [h : Has L g c t] (hr : Row P ty n) (hn : c.size = n) (hR : R (.returned (.agg c)) u.w) :
    bodyPost P fn R .ret ⟨tmps, []⟩ u.w := by
  obtain ⟨h1, h2⟩ := run_cell (u := u) hp hr hn
  refine bodyPost_ret (v := .agg c) ?_ rfl hR
  simp only [Array.getD_eq_getD_getElem?] at h1
  simp only [results, hf]
  simp [Sem.run_bind, h1, h2]
theorem body_cell_tmp {v : Value} (hf : fn.results = #[.cell p ty, .tmp q]) (hp : tmps.getD p undef = .pointer (some ⟨g, 0, none⟩)) (hq : tmps.getD q undef = v) [h : Has L g c t] (hr : Row P ty n) (hn : c.size = n)
    (hR : R (.returned (.tuple #[.agg c, v])) u.w) : bodyPost P fn R .ret ⟨tmps, []⟩ u.w := by
  obtain ⟨h1, h2⟩ := run_cell (u := u) hp hr hn
  refine bodyPost_ret (v := .tuple #[.agg c, v]) ?_ rfl hR
  rw [results_cell_tmp hf, h1, Result.andThen_ok, h2, Result.andThen_ok, hq]
end

/-- behind an append to a slice that lies behind all that is told of -/
theorem KW.grown {W : World} {L : List Ent} (u : KW W L) {w' : World} {row : Option Nat} {B1 : Nat} (hg : u.w.grownBy w' row) (hr : ∀ k, row = some k → B1 ≤ k) (hW : W.heap.size ≤ B1) (hL : ∀ e ∈ L, e.g < B1) : ∃ u' : KW W L, w' = u'.w :=
  ⟨⟨w', Below.grown u.below hg u.size (fun k hk => Nat.le_trans hW (hr k hk)), fun e he => ⟨by
    rw [hg.block e.g (u.lt_of_mem e he) (fun h => by have := hr _ h.symm; have := hL e he; omega)]
    exact (u.mem e he).1, (u.mem e he).2⟩, u.nodup⟩, rfl⟩
/-- a row that a call has made and handed over is told of from now on -/
theorem KW.take_own {W : World} {L : List Ent} (u : KW W L) {w' : World} {e : TypeId} {v : Value} {n : Nat} {xs : List Value} (hb : Below u.w.heap.size u.w w') (h : w'.ownsRow u.w.heap.size e 1 v n xs) (hn : 0 < n) :
    ∃ (g cap : Nat) (cur : Array Value) (u' : KW W (⟨g, cur, e⟩ :: L)), v = .slice (some ⟨g, 0, none⟩) n cap ∧ n ≤ cap ∧ cap ≤ maxLen ∧ cur.size = cap ∧ cur.toList.take n = xs ∧ w' = u'.w := by
  obtain ⟨_, ⟨_, h2⟩ | ⟨g, cap, cur, hv, hg, hc, h1, h2, h3, h4⟩⟩ := h
  · omega
  · refine ⟨g, cap, cur, ⟨w', (u.later hb).below, fun x hx => ?_, ?_⟩, hv, h1, h2, by omega, by rw [← h4, Nat.mul_one], rfl⟩
    · rcases List.mem_cons.1 hx with rfl | hx
      · exact ⟨hc, Nat.le_trans u.size hg⟩
      · exact (u.later hb).mem x hx
    · simp only [List.map_cons, List.nodup_cons]
      refine ⟨fun hm => ?_, u.nodup⟩
      obtain ⟨x, hx, h1⟩ := List.mem_map.1 hm
      have := u.lt_of_mem x hx
      omega
/-! ### a region whose head is quiet in a class of worlds and whose tail comes in one order -/
section
variable {P : Program} {ops : Array Oper} {md : Region.Mode} {C : World → Prop}
/-- f operations of the head are still to come, in whatever order; each is quiet; then T -/
def headLeft (P : Program) (md : Region.Mode) (ops : Array Oper) (C : World → Prop) (n : Nat) (T : Array Bool → Act → Prop) : Nat → Array Bool → Act → Prop
  | 0, ls, a => T ls a
  | f + 1, ls, a => Region.ready md ops ls ≠ [] ∧ ∀ i ∈ Region.ready md ops ls, i < n ∧ qOp P ops C i (headLeft P md ops C n T f (ls.setIfInBounds i true)) a
theorem headLeft_any {n m : Nat} {T : Array Bool → Act → Prop} {Q : Exit → Act → World → Prop} (hT : ∀ ls a w, C w → T ls a → wpAny P md ops Q m ls a w) (f : Nat) :
    ∀ (ls : Array Bool) (a : Act) (w : World), C w → headLeft P md ops C n T f ls a → wpAny P md ops Q (f + m) ls a w := by
  induction f with
  | zero => intro ls a w hw h; rw [Nat.zero_add]; exact hT _ _ _ hw h
  | succ f ih =>
    intro ls a w hw h
    rw [Nat.add_right_comm]
    refine ⟨fun h0 => absurd h0 h.1, fun i hi => ?_⟩
    exact wpOp_of_qOp hw (fun a' w' hw' h' => ih _ a' w' hw' h') (h.2 i hi).2
/-- an operation of the head that may come may come first -/
theorem headLeft_first {n i : Nat} {oi : Oper} {v : Value} {T : Array Bool → Act → Prop} (hi : ops[i]? = some oi) (hsel : ∀ (j : Nat) (o : Oper) cs b, ops[j]? = some o → o.op ≠ .select cs b)
    (hs : Region.sinkB md ops n = true) (hc : Region.chainB md ops n = true) (hn : n < ops.size) (hin : i < n) (hT : ∀ ls a, T ls a → ∀ j ∈ Region.ready md ops ls, n ≤ j) (f : Nat) :
    ∀ (ls : Array Bool) (a : Act), HeadInv md ops n ls →
      (∀ j oj, ops[j]? = some oj → j ≠ i → ls.getD j true = false → (∀ e ∈ oj.after, Region.binds md e = true → e.on ≠ i) → oi.apart ops oj = true) →
      i ∈ Region.ready md ops ls → YieldsIn P ops C oi v a → headLeft P md ops C n T f (ls.setIfInBounds i true) (a.put oi.dst v) → headLeft P md ops C n T (f + 1) ls a := by
  induction f with
  | zero =>
    intro ls a inv _ hr hy H
    refine ⟨fun h0 => (by rw [h0] at hr; cases hr), fun j hj => ?_⟩
    have hjn : j < n := Nat.lt_of_not_le fun hge => tail_waits hs hc hn inv _ i rfl hin (mem_ready.1 hr).1 j hge hj
    by_cases hji : j = i
    · rw [hji]; exact ⟨hin, hy.qOp hi H⟩
    · exact absurd (hT _ _ H j (ready_mono hj hji)) (by omega)
  | succ f ih =>
    intro ls a inv hap hr hy H
    refine ⟨fun h0 => (by rw [h0] at hr; cases hr), fun j hj => ?_⟩
    have hun := (mem_ready.1 hr).1
    have hjn : j < n := Nat.lt_of_not_le fun hge => tail_waits hs hc hn inv _ i rfl hin hun j hge hj
    refine ⟨hjn, ?_⟩
    by_cases hji : j = i
    · rw [hji]; exact hy.qOp hi H
    · obtain ⟨hju, oj, hoj, hall⟩ := mem_ready.1 hj
      have hno : ∀ e ∈ oj.after, Region.binds md e = true → e.on ≠ i := fun e he hb hc' => by
        have := hall e he hb
        rw [hc', getD_both hun] at this
        cases this
      refine qOp_mono (fun a' h3 => ?_) (qOp_put hoj (hap j oj hoj hji hju hno) (fun cs b => hsel i oi cs b hi) (fun cs b => hsel j oj cs b hoj) hy (H.2 j (ready_mono hj hji)).2)
      have H3 := h3.2
      rw [Array.setIfInBounds_comm true true (fun e => hji e.symm)] at H3
      refine ih _ a' (inv.set hj hjn) (fun k ok hk hki hku hkn => hap k ok hk hki ?_ hkn) (ready_mono hr (fun e => hji e.symm)) h3.1 H3
      by_cases hjk : j = k
      · rw [← hjk]; exact hju
      · rwa [getD_set_ne true hjk] at hku
/-- the head in the order of the text serves every order -/
theorem headLeft_lex {n m : Nat} {T : Act → Prop} (hsel : Region.noSelect ops = true) (hs : Region.sinkB md ops n = true) (hc : Region.chainB md ops n = true) (hn : n < ops.size) (l : List Oper) :
    ∀ (k : Nat) (ls : Array Bool) (a : Act), (∀ j, j < l.length → l[j]? = ops[k + j]?) → k + l.length = n → HeadInv md ops n ls → Region.lexHead md ops m l.length k ls = true → wpQuiet P ops C T l a →
      headLeft P md ops C n (fun ls' a' => Region.seqB md ops m n ls' = true ∧ T a') l.length ls a := by
  induction l with
  | nil =>
    intro k ls a _ hk _ hB h
    have e : k = n := by simpa using hk
    rw [e] at hB
    exact ⟨by simpa [Region.lexHead] using hB, h⟩
  | cons o l ih =>
    intro k ls a hl hk inv hB h
    have h0 : ops[k]? = some o := by simpa using (hl 0 (by simp)).symm
    simp only [List.length_cons, Region.lexHead, Bool.and_eq_true] at hB
    have hkn : k < n := by simp only [List.length_cons] at hk; omega
    have hr : k ∈ Region.ready md ops ls := by simpa using hB.1.1
    obtain ⟨v, hy, hK⟩ := yieldsIn_of_qOp h0 (show qOp P ops C k (wpQuiet P ops C T l) a by unfold qOp; simp only [h0]; exact h)
    refine headLeft_first h0 (Region.noSelect_spec hsel) hs hc hn hkn (fun ls' a' hT => seqB_ready hT.1) l.length ls a inv (Region.free_spec h0 hB.1.2) hr hy (ih (k + 1) _ _ (fun j hj => ?_) ?_ (inv.set hr hkn) hB.2 hK)
    · have := hl (j + 1) (by simp; omega)
      simpa [Nat.add_assoc, Nat.add_comm 1 j] using this
    · simp only [List.length_cons] at hk; omega
theorem region_tail {id : Nat} {Q : Exit → Act → World → Prop} {a : Act} {W : World} {L : List Ent} {u : KW W L} {l : List Oper} (n : Nat) (hm : P.follows .mixedOrders = true) (hB : Region.lexTailB .any l.toArray n = true)
    (h : Nonempty (KW W L) → wpQuiet P l.toArray (fun w' => ∃ u : KW W L, w' = u.w) (fun a' => ∀ w', (∃ u : KW W L, w' = u.w) → wpList P l.toArray Q (l.drop n) a' w') (l.take n) a) : (Code.region id l.toArray true).wp P Q a u.w := by
  simp only [Region.lexTailB, Bool.and_eq_true, decide_eq_true_eq] at hB
  obtain ⟨⟨⟨⟨hsel, hn⟩, hs⟩, hc⟩, hlex⟩ := hB
  have hn' : n < l.length := by simpa using hn
  have htl : (l.take n).length = n := by simp; omega
  have hdl : (l.drop n).length = l.toArray.size - n := by simp
  have hsum : n + (l.toArray.size - n) = l.toArray.size := by omega
  have inv0 : HeadInv .any l.toArray n (Array.replicate l.toArray.size false) :=
    ⟨by simp, fun j oj _ hl => (by rw [getD_replicate_false] at hl; cases hl), fun t _ ht => getD_in (by simpa using ht) (getD_replicate_false _ _)⟩
  have H := headLeft_lex (md := .any) (m := l.toArray.size - n) hsel hs hc hn (l.take n) 0 _ a (fun j hj => by
    rw [htl] at hj
    simp [hj]) (by simpa using htl) inv0 (by rw [htl]; exact hlex) (h ⟨u⟩)
  rw [htl] at H
  refine wp_region_any hm ?_
  have A := headLeft_any (Q := Q) (m := l.toArray.size - n) (fun ls a' w' hw hT => by
    have := wpAny_of_seq (md := .any) (Q' := Q) (l.drop n) n ls a' w' (fun j => by simp [List.getElem?_drop]) (by rw [hdl]; exact hT.1) (hT.2 w' hw)
    rwa [hdl] at this) n _ a u.drew.w ⟨u.drew, rfl⟩ H
  rw [hsum] at A
  exact A
end
end KM

/- Regions that draw their order and hold loads and stores of whole aggregates, for any program: a load may come late, behind a store to another block. -/
namespace KM
open Go Go.RowKit
/-- the blocks of Lc are among L's -/
class Sub (Lc L : List Ent) : Prop where
  out : Lc.Sublist L
instance Sub.nil {L} : Sub [] L := ⟨List.nil_sublist L⟩
instance Sub.skip {e Lc L} [h : Sub Lc L] : Sub Lc (e :: L) := ⟨h.out.cons e⟩
instance Sub.both {e Lc L} [h : Sub Lc L] : Sub (e :: Lc) (e :: L) := ⟨h.out.cons_cons e⟩
theorem KW.weak {W : World} {L Lc : List Ent} [h : Sub Lc L] (u : KW W L) : ∃ u' : KW W Lc, u.w = u'.w :=
  ⟨⟨u.w, u.below, fun e he => u.mem e (h.out.subset he), (h.out.map Ent.g).nodup u.nodup⟩, rfl⟩
section
variable {P : Program} {ops : Array Oper} {md : Region.Mode} {Q : Exit → Act → World → Prop} {S : World → Prop} {T : Act → Prop}
/-- operations that yield their values in every world of S, one behind the other; then T -/
def readsT (P : Program) (ops : Array Oper) (S : World → Prop) (T : Act → Prop) : List Oper → Act → Prop
  | [], a => T a
  | o :: r, a => ∃ v, YieldsIf P ops S o v a ∧ readsT P ops S T r (a.put o.dst v)
/-- operations behind each of which S holds -/
def tailT (P : Program) (S : World → Prop) (Q : Exit → Act → World → Prop) : List Oper → Act → World → Prop
  | [], a, w => Q .normal a w
  | o :: r, a, w => o.guard = none ∧ o.wp P a w (fun a' w' => S w' ∧ tailT P S Q r a' w') Q
theorem wanted_none {o : Oper} (h : o.guard = none) (y : Nat → Option Bool) : Region.wanted o y = true := by simp [Region.wanted, h]
theorem held_tail : ∀ (l : List Oper) (k : Nat) (ls : Array Bool) (a : Act) (w : World), (∀ j, l[j]? = ops[k + j]?) → Region.seqB md ops l.length k ls = true → tailT P S Q l a w → wpAnyH P md ops Q S l.length ls a w
  | [], _, _, _, _, _, hB, h => ⟨by simpa [Region.seqB] using hB, h⟩
  | o :: l, k, ls, a, w, hl, hB, h => by
    have h0 : ops[k]? = some o := by simpa using (hl 0).symm
    simp only [List.length_cons, Region.seqB, Bool.and_eq_true, decide_eq_true_eq] at hB
    refine ⟨fun h1 => (by rw [hB.1] at h1; cases h1), fun i hi => ?_⟩
    rw [hB.1] at hi
    have hik : i = k := by simpa using hi
    subst hik
    have hw : wpOp P ops Q i (fun a' w' => S w' ∧ tailT P S Q l a' w') a w := by
      unfold wpOp
      simp only [h0]
      rw [if_pos (wanted_none h.1 _)]
      exact Or.inl h.2
    exact wpOp_mono (fun a' w' h' => ⟨h'.1, held_tail l (i + 1) _ a' w' (fun j => by have := hl (j + 1); simpa [Nat.add_assoc, Nat.add_comm 1 j] using this) hB.2 h'.2⟩) hw
theorem held_head {n m : Nat} {w : World} (hsel : Region.noSelect ops = true) (hQ : ∀ c a w d v, Q (.panic c) (Act.put a d v) w → Q (.panic c) a w) (hS : S w)
    (hT : ∀ ls a, Region.seqB md ops m n ls = true → T a → wpAnyH P md ops Q S m ls a w) (l : List Oper) :
    ∀ (k : Nat) (ls : Array Bool) (a : Act), (∀ j, j < l.length → l[j]? = ops[k + j]?) → k + l.length = n → Region.lexHead md ops m l.length k ls = true → readsT P ops S T l a → wpAnyH P md ops Q S (l.length + m) ls a w := by
  induction l with
  | nil =>
    intro k ls a _ hk hB h
    have e : k = n := by simpa using hk
    rw [e] at hB
    rw [List.length_nil, Nat.zero_add]
    exact hT ls a (by simpa [Region.lexHead] using hB) h
  | cons o l ih =>
    intro k ls a hl hk hB h
    have h0 : ops[k]? = some o := by simpa using (hl 0 (by simp)).symm
    simp only [List.length_cons, Region.lexHead, Bool.and_eq_true] at hB
    obtain ⟨v, hy, hR⟩ := h
    rw [List.length_cons, Nat.add_right_comm]
    refine wpAnyH_take h0 hsel hB.1.2 hB.1.1 (fun c a w h => hQ c a w _ _ h) hy hS (ih (k + 1) _ _ (fun j hj => ?_) ?_ hB.2 hR)
    · have := hl (j + 1) (by simp; omega)
      simpa [Nat.add_assoc, Nat.add_comm 1 j] using this
    · simp only [List.length_cons] at hk; omega
def readsB (md : Region.Mode) (ops : Array Oper) (n : Nat) : Bool := Region.noSelect ops && decide (n ≤ ops.size) && Region.lexHead md ops (ops.size - n) n 0 (Array.replicate ops.size false)
end
section
variable {P : Program} {ops : Array Oper} {Q : Exit → Act → World → Prop} {rest : List Oper} {a : Act} {W : World} {L L' Lc : List Ent} {d : Tmp} {t ty : TypeId} {ps : String} {af : Array Edge} {x y : Operand} {T : Act → Prop}
/-- worlds in which the blocks of Lc are known -/
def Known (W : World) (Lc : List Ent) (w : World) : Prop := ∃ u : KW W Lc, w = u.w
theorem region_reads {id : Nat} {l : List Oper} {u : KW W L} (Lc : List Ent) (hs : Sub Lc L) (n : Nat) (hm : P.follows .mixedOrders = true) (hB : readsB .any l.toArray n = true)
    (hQ : ∀ c a w d v, Q (.panic c) (Act.put a d v) w → Q (.panic c) a w)
    (h : readsT P l.toArray (Known W Lc) (fun a' => ∀ u' : KW W L, tailT P (Known W Lc) Q (l.drop n) a' u'.w) (l.take n) a) : (Code.region id l.toArray true).wp P Q a u.w := by
  simp only [readsB, Bool.and_eq_true, decide_eq_true_eq] at hB
  obtain ⟨⟨hsel, hn⟩, hlex⟩ := hB
  have hn' : n ≤ l.length := by simpa using hn
  have htl : (l.take n).length = n := by simp; omega
  have hdl : (l.drop n).length = l.toArray.size - n := by simp
  have hsum : n + (l.toArray.size - n) = l.toArray.size := by omega
  refine wp_region_held (S := Known W Lc) hm ?_
  have A := held_head (md := .any) (n := n) (m := l.toArray.size - n) (w := u.drew.w) hsel hQ (KW.weak (h := hs) u.drew) (fun ls a' hq hT => by
    have := held_tail (ops := l.toArray) (md := .any) (Q := Q) (l.drop n) n ls a' u.drew.w (fun j => by simp [List.getElem?_drop]) (by rw [hdl]; exact hq) (hT u.drew)
    rwa [hdl] at this) (l.take n) 0 _ a (fun j hj => by
      rw [htl] at hj
      simp [hj]) (by simpa using htl) (by rw [htl]; exact hlex) h
  rw [htl, hsum] at A
  exact A
/-- the operations of numbers ks, in that order -/
def pick (l : List Oper) (ks : List Nat) : List Oper := ks.filterMap (l[·]?)
def seqLB (md : Region.Mode) (ops : Array Oper) : List Nat → Array Bool → Bool
  | [], ls => (Region.ready md ops ls).isEmpty
  | r :: rs, ls => decide (Region.ready md ops ls = [r]) && (ops[r]?).isSome && seqLB md ops rs (ls.setIfInBounds r true)
def pickB (md : Region.Mode) (ops : Array Oper) (rs : List Nat) : List Nat → Array Bool → Bool
  | [], ls => seqLB md ops rs ls
  | k :: ks, ls => (Region.ready md ops ls).contains k && Region.free md ops ls k && (ops[k]?).isSome && pickB md ops rs ks (ls.setIfInBounds k true)
theorem held_seq {md : Region.Mode} {S : World → Prop} {l : List Oper} (hl : ops = l.toArray) : ∀ (rs : List Nat) (ls : Array Bool) (a : Act) (w : World), seqLB md ops rs ls = true → tailT P S Q (pick l rs) a w → wpAnyH P md ops Q S rs.length ls a w
  | [], _, _, _, hB, h => ⟨by simpa [seqLB] using hB, h⟩
  | r :: rs, ls, a, w, hB, h => by
    simp only [seqLB, Bool.and_eq_true, decide_eq_true_eq] at hB
    obtain ⟨o, h0⟩ := Option.isSome_iff_exists.1 hB.1.2
    have h0' : l[r]? = some o := by rw [hl] at h0; simpa using h0
    simp only [pick, List.filterMap_cons, h0'] at h
    refine ⟨fun h1 => (by rw [hB.1.1] at h1; cases h1), fun i hi => ?_⟩
    rw [hB.1.1] at hi
    have hik : i = r := by simpa using hi
    subst hik
    have hw : wpOp P ops Q i (fun a' w' => S w' ∧ tailT P S Q (pick l rs) a' w') a w := by
      unfold wpOp
      simp only [h0]
      rw [if_pos (wanted_none h.1 _)]
      exact Or.inl h.2
    exact wpOp_mono (fun a' w' h' => ⟨h'.1, held_seq hl rs _ a' w' hB.2 h'.2⟩) hw
theorem held_pick {md : Region.Mode} {S : World → Prop} {l : List Oper} {rs : List Nat} {w : World} (hl : ops = l.toArray) (hsel : Region.noSelect ops = true) (hQ : ∀ c a w d v, Q (.panic c) (Act.put a d v) w → Q (.panic c) a w) (hS : S w)
    (hT : ∀ ls a, seqLB md ops rs ls = true → T a → wpAnyH P md ops Q S rs.length ls a w) : ∀ (ks : List Nat) (ls : Array Bool) (a : Act), pickB md ops rs ks ls = true → readsT P ops S T (pick l ks) a → wpAnyH P md ops Q S (ks.length + rs.length) ls a w
  | [], ls, a, hB, h => by
    rw [List.length_nil, Nat.zero_add]
    exact hT ls a hB h
  | k :: ks, ls, a, hB, h => by
    simp only [pickB, Bool.and_eq_true] at hB
    obtain ⟨o, h0⟩ := Option.isSome_iff_exists.1 hB.1.2
    have h0' : l[k]? = some o := by rw [hl] at h0; simpa using h0
    simp only [pick, List.filterMap_cons, h0'] at h
    obtain ⟨v, hy, hR⟩ := h
    rw [List.length_cons, Nat.add_right_comm]
    exact wpAnyH_take h0 hsel hB.1.1.2 hB.1.1.1 (fun c a w h => hQ c a w _ _ h) hy hS (held_pick hl hsel hQ hS hT ks _ _ hB.2 hR)
/-- operations ks are taken first; those of rs then come in one order -/
theorem region_pick {id : Nat} {l : List Oper} {u : KW W L} (ks rs : List Nat) (Lc : List Ent) (hs : Sub Lc L) (hm : P.follows .mixedOrders = true) (hB : (Region.noSelect l.toArray && decide (ks.length + rs.length = l.length) && pickB .any l.toArray rs ks (Array.replicate l.length false)) = true)
    (hQ : ∀ c a w d v, Q (.panic c) (Act.put a d v) w → Q (.panic c) a w)
    (h : readsT P l.toArray (Known W Lc) (fun a' => ∀ u' : KW W L, tailT P (Known W Lc) Q (pick l rs) a' u'.w) (pick l ks) a) : (Code.region id l.toArray true).wp P Q a u.w := by
  simp only [Bool.and_eq_true, decide_eq_true_eq] at hB
  refine wp_region_held (S := Known W Lc) hm ?_
  have A := held_pick (md := .any) (rs := rs) (w := u.drew.w) rfl hB.1.1 hQ (KW.weak (h := hs) u.drew) (fun ls a' hq hT => held_seq rfl rs ls a' u.drew.w hq (hT u.drew)) ks _ a hB.2 h
  rw [hB.1.2] at A
  have e : l.toArray.size = l.length := by simp
  rw [e]
  exact A
theorem tail_value {op : Op} {d : Option Tmp} {v : Value} {w : World} {S : World → Prop} (hv : (execOp a.eval ⟨d, op, ty, ps, af, none⟩).run P w = .ok (.value v) w) (hS : S w) (h : tailT P S Q rest (a.put d v) w) : tailT P S Q (⟨d, op, ty, ps, af, none⟩ :: rest) a w :=
  ⟨rfl, by unfold Oper.wp; rw [hv]; exact ⟨hS, h⟩⟩
theorem tail_enter {op : Op} {d : Option Tmp} {f : FuncId} {args : Array Value} {w : World} {S : World → Prop} (he : (execOp a.eval ⟨d, op, ty, ps, af, none⟩).run P w = .ok (.enter f args) w)
    (h : Calls P f args w fun e w' => ∃ v, e = .returned v ∧ S w' ∧ tailT P S Q rest (a.put d v) w') : tailT P S Q (⟨d, op, ty, ps, af, none⟩ :: rest) a w := by
  refine ⟨rfl, ?_⟩
  unfold Oper.wp
  rw [he]
  refine Calls.mono h fun e w' ⟨v, h0, h1, h2⟩ => ?_
  subst h0
  exact ⟨h1, h2⟩
theorem tail_load {u : KW W L} {g : Nat} {c : Array Value} {t' : TypeId} {n : Nat} (hx : a.eval x = .pointer (some ⟨g, 0, none⟩)) (hp : Has L g c t') (hs : Sub Lc L) (hr : Row P t n) (hn : c.size = n)
    (h : tailT P (Known W Lc) Q rest (a.put (some d) (.agg c)) u.w) : tailT P (Known W Lc) Q (⟨some d, .load t x, ty, ps, af, none⟩ :: rest) a u.w := by
  refine ⟨rfl, ?_⟩
  unfold Oper.wp execOp
  simp only [hx, Sem.run_bind, run_load u (h := hp) hr hn, Result.andThen_ok, Sem.run_pure]
  exact ⟨KW.weak (h := hs) u, h⟩
theorem defers_put (a : Act) (d : Option Tmp) (v : Value) : (a.put d v).defers = a.defers := by cases d <;> rfl
/-! ### the same in any mixture: (true, k): number k is taken first; (false, k): it is the only one that may come -/
def picks (l : List Oper) (ms : List (Bool × Nat)) : List (Bool × Oper) := ms.filterMap fun m => (l[m.2]?).map (m.1, ·)
def mixB (md : Region.Mode) (ops : Array Oper) : List (Bool × Nat) → Array Bool → Bool
  | [], ls => (Region.ready md ops ls).isEmpty
  | (true, k) :: r, ls => (Region.ready md ops ls).contains k && Region.free md ops ls k && (ops[k]?).isSome && mixB md ops r (ls.setIfInBounds k true)
  | (false, k) :: r, ls => decide (Region.ready md ops ls = [k]) && (ops[k]?).isSome && mixB md ops r (ls.setIfInBounds k true)
def mixT (P : Program) (ops : Array Oper) (S : World → Prop) (Q : Exit → Act → World → Prop) : List (Bool × Oper) → Act → World → Prop
  | [], a, w => Q .normal a w
  | (true, o) :: r, a, w => ∃ v, YieldsIf P ops S o v a ∧ mixT P ops S Q r (a.put o.dst v) w
  | (false, o) :: r, a, w => Region.wanted o (yielded ops a.tmps) = true ∧ o.wp P a w (fun a' w' => S w' ∧ mixT P ops S Q r a' w') Q
theorem held_mix {md : Region.Mode} {S : World → Prop} {l : List Oper} (hl : ops = l.toArray) (hsel : Region.noSelect ops = true) (hQ : ∀ c a w d v, Q (.panic c) (Act.put a d v) w → Q (.panic c) a w) :
    ∀ (ms : List (Bool × Nat)) (ls : Array Bool) (a : Act) (w : World), mixB md ops ms ls = true → S w → mixT P ops S Q (picks l ms) a w → wpAnyH P md ops Q S ms.length ls a w
  | [], ls, a, w, hB, hS, h => ⟨by simpa [mixB] using hB, h⟩
  | (true, k) :: ms, ls, a, w, hB, hS, h => by
    simp only [mixB, Bool.and_eq_true] at hB
    obtain ⟨o, h0⟩ := Option.isSome_iff_exists.1 hB.1.2
    have h0' : l[k]? = some o := by rw [hl] at h0; simpa using h0
    simp only [picks, List.filterMap_cons, h0', Option.map_some] at h
    obtain ⟨v, hy, hR⟩ := h
    exact wpAnyH_take h0 hsel hB.1.1.2 hB.1.1.1 (fun c a w h => hQ c a w _ _ h) hy hS (held_mix hl hsel hQ ms _ _ w hB.2 hS hR)
  | (false, k) :: ms, ls, a, w, hB, hS, h => by
    simp only [mixB, Bool.and_eq_true, decide_eq_true_eq] at hB
    obtain ⟨o, h0⟩ := Option.isSome_iff_exists.1 hB.1.2
    have h0' : l[k]? = some o := by rw [hl] at h0; simpa using h0
    simp only [picks, List.filterMap_cons, h0', Option.map_some] at h
    refine ⟨fun h1 => (by rw [hB.1.1] at h1; cases h1), fun i hi => ?_⟩
    rw [hB.1.1] at hi
    have hik : i = k := by simpa using hi
    subst hik
    have hw : wpOp P ops Q i (fun a' w' => S w' ∧ mixT P ops S Q (picks l ms) a' w') a w := by
      unfold wpOp
      simp only [h0]
      rw [if_pos h.1]
      exact Or.inl h.2
    exact wpOp_mono (fun a' w' h' => ⟨h'.1, held_mix hl hsel hQ ms _ a' w' hB.2 h'.1 h'.2⟩) hw
theorem region_mix {id : Nat} {l : List Oper} {u : KW W L} (ms : List (Bool × Nat)) (Lc : List Ent) (hs : Sub Lc L) (hm : P.follows .mixedOrders = true) (hB : (Region.noSelect l.toArray && decide (ms.length = l.length) && mixB .any l.toArray ms (Array.replicate l.length false)) = true)
    (hQ : ∀ c a w d v, Q (.panic c) (Act.put a d v) w → Q (.panic c) a w)
    (h : ∀ u' : KW W L, Below u.w.heap.size u.w u'.w → mixT P l.toArray (Known W Lc) Q (picks l ms) a u'.w) : (Code.region id l.toArray true).wp P Q a u.w := by
  simp only [Bool.and_eq_true, decide_eq_true_eq] at hB
  refine wp_region_held (S := Known W Lc) hm ?_
  have A := held_mix (md := .any) (Q := Q) rfl hB.1.1 hQ ms _ a u.drew.w hB.2 (KW.weak (h := hs) u.drew) (h u.drew (Below.drew (Below.refl _ _)))
  rw [hB.1.2] at A
  have e : l.toArray.size = l.length := by simp
  rw [e]
  exact A
section
variable {S : World → Prop} {w : World} {mr : List (Bool × Oper)}
theorem mix_nil (h : Q .normal a w) : mixT P ops S Q [] a w := h
theorem mix_value {op : Op} {d : Option Tmp} {v : Value} (hv : ∀ w, (execOp a.eval ⟨d, op, ty, ps, af, none⟩).run P w = .ok (.value v) w) (h : mixT P ops S Q mr (a.put d v) w) : mixT P ops S Q ((true, ⟨d, op, ty, ps, af, none⟩) :: mr) a w :=
  ⟨v, Or.inl ⟨wanted_none rfl _, fun w _ => hv w⟩, h⟩
theorem mix_load {g : Nat} {c : Array Value} {t' : TypeId} {n : Nat} (hx : a.eval x = .pointer (some ⟨g, 0, none⟩)) (hp : Has Lc g c t') (hr : Row P t n) (hn : c.size = n)
    (h : mixT P ops (Known W Lc) Q mr (a.put (some d) (.agg c)) w) : mixT P ops (Known W Lc) Q ((true, ⟨some d, .load t x, ty, ps, af, none⟩) :: mr) a w := by
  refine ⟨.agg c, Or.inl ⟨wanted_none rfl _, ?_⟩, h⟩
  rintro w ⟨u, rfl⟩
  unfold execOp
  simp only [hx, Sem.run_bind, run_load u (h := hp) hr hn, Result.andThen_ok, Sem.run_pure]
theorem mix_then {op : Op} {d : Option Tmp} {v : Value} (hv : (execOp a.eval ⟨d, op, ty, ps, af, none⟩).run P w = .ok (.value v) w) (hS : S w) (h : mixT P ops S Q mr (a.put d v) w) : mixT P ops S Q ((false, ⟨d, op, ty, ps, af, none⟩) :: mr) a w :=
  ⟨wanted_none rfl _, by unfold Oper.wp; rw [hv]; exact ⟨hS, h⟩⟩
theorem mix_enter {op : Op} {d : Option Tmp} {f : FuncId} {args : Array Value} (he : (execOp a.eval ⟨d, op, ty, ps, af, none⟩).run P w = .ok (.enter f args) w)
    (h : Calls P f args w fun e w' => ∃ v, e = .returned v ∧ S w' ∧ mixT P ops S Q mr (a.put d v) w') : mixT P ops S Q ((false, ⟨d, op, ty, ps, af, none⟩) :: mr) a w := by
  refine ⟨wanted_none rfl _, ?_⟩
  unfold Oper.wp
  rw [he]
  refine Calls.mono h fun e w' ⟨v, h0, h1, h2⟩ => ?_
  subst h0
  exact ⟨h1, h2⟩
theorem mixg_value {gd : Option (Nat × Bool)} {op : Op} {d : Option Tmp} {v : Value} (hw : Region.wanted ⟨d, op, ty, ps, af, gd⟩ (yielded ops a.tmps) = true) (hv : ∀ w, (execOp a.eval ⟨d, op, ty, ps, af, gd⟩).run P w = .ok (.value v) w) (h : mixT P ops S Q mr (a.put d v) w) : mixT P ops S Q ((true, ⟨d, op, ty, ps, af, gd⟩) :: mr) a w :=
  ⟨v, Or.inl ⟨hw, fun w _ => hv w⟩, h⟩
theorem mixg_load {gd : Option (Nat × Bool)} {g : Nat} {c : Array Value} {t' : TypeId} {n : Nat} (hw : Region.wanted ⟨some d, .load t x, ty, ps, af, gd⟩ (yielded ops a.tmps) = true) (hx : a.eval x = .pointer (some ⟨g, 0, none⟩)) (hp : Has Lc g c t') (hr : Row P t n) (hn : c.size = n)
    (h : mixT P ops (Known W Lc) Q mr (a.put (some d) (.agg c)) w) : mixT P ops (Known W Lc) Q ((true, ⟨some d, .load t x, ty, ps, af, gd⟩) :: mr) a w := by
  refine ⟨.agg c, Or.inl ⟨hw, ?_⟩, h⟩
  rintro w ⟨u, rfl⟩
  unfold execOp
  simp only [hx, Sem.run_bind, run_load u (h := hp) hr hn, Result.andThen_ok, Sem.run_pure]
theorem mixg_enter {gd : Option (Nat × Bool)} {op : Op} {d : Option Tmp} {f : FuncId} {args : Array Value} (hw : Region.wanted ⟨d, op, ty, ps, af, gd⟩ (yielded ops a.tmps) = true) (he : (execOp a.eval ⟨d, op, ty, ps, af, gd⟩).run P w = .ok (.enter f args) w)
    (h : Calls P f args w fun e w' => ∃ v, e = .returned v ∧ S w' ∧ mixT P ops S Q mr (a.put d v) w') : mixT P ops S Q ((false, ⟨d, op, ty, ps, af, gd⟩) :: mr) a w := by
  refine ⟨hw, ?_⟩
  unfold Oper.wp
  rw [he]
  refine Calls.mono h fun e w' ⟨v, h0, h1, h2⟩ => ?_
  subst h0
  exact ⟨h1, h2⟩
end
theorem reads_nil (h : T a) {S : World → Prop} : readsT P ops S T [] a := h
theorem reads_value {o : Oper} {v : Value} {S : World → Prop} (hg : o.guard = none) (hv : ∀ w, (execOp a.eval o).run P w = .ok (.value v) w) (h : readsT P ops S T rest (a.put o.dst v)) : readsT P ops S T (o :: rest) a :=
  ⟨v, Or.inl ⟨wanted_none hg _, fun w _ => hv w⟩, h⟩
theorem reads_load {g : Nat} {c : Array Value} {t' : TypeId} {n : Nat} (hx : a.eval x = .pointer (some ⟨g, 0, none⟩)) (hp : Has Lc g c t') (hr : Row P t n) (hn : c.size = n)
    (h : readsT P ops (Known W Lc) T rest (a.put (some d) (.agg c))) : readsT P ops (Known W Lc) T (⟨some d, .load t x, ty, ps, af, none⟩ :: rest) a := by
  refine ⟨.agg c, Or.inl ⟨wanted_none rfl _, ?_⟩, h⟩
  rintro w ⟨u, rfl⟩
  unfold execOp
  simp only [hx, Sem.run_bind, run_load u (h := hp) hr hn, Result.andThen_ok, Sem.run_pure]
theorem tail_nil {w : World} {S : World → Prop} (h : Q .normal a w) : tailT P S Q [] a w := h
theorem tail_store {u : KW W L} {g : Nat} {c c' : Array Value} {n : Nat} (hx : a.eval x = .pointer (some ⟨g, 0, none⟩)) (hy : a.eval y = .agg c') (hp : PutAll L g c' c L') (hs : Sub Lc L') (hr : Row P t n) (hn : c.size = n) (hn' : c'.size = n)
    (h1 : c'.all (·.oneCell') = true) (h : ∀ u' : KW W L', tailT P (Known W Lc) Q rest a u'.w) : tailT P (Known W Lc) Q (⟨none, .store t x y, ty, ps, af, none⟩ :: rest) a u.w := by
  obtain ⟨u', hu'⟩ := u.ex_row (h := hp)
  obtain ⟨A, t', B, hL, _⟩ := hp.out
  have hg := (u.mem ⟨g, c, t'⟩ (by rw [hL]; simp)).1
  refine ⟨rfl, ?_⟩
  unfold Oper.wp execOp
  simp only [hx, hy, Instr.storeAt, Instr.sureAddr, Sem.run_bind, Sem.run_pure, Result.andThen_ok, run_storeVar_row u.w g t' t c c' hg (by rw [hn']; exact hr.2) (by omega) h1]
  rw [hu']
  exact ⟨KW.weak (h := hs) u', h u'⟩
theorem tail_assign {u : KW W L} {v : Value} (hv : a.eval x = v) (hs : Sub Lc L) (h : tailT P (Known W Lc) Q rest (a.put (some d) v) u.w) : tailT P (Known W Lc) Q (⟨some d, .assign x, ty, ps, af, none⟩ :: rest) a u.w := by
  refine ⟨rfl, ?_⟩
  unfold Oper.wp execOp
  simp only [hv, Sem.run_pure]
  exact ⟨KW.weak (h := hs) u, h⟩
end
/-! ### laws of the walk that tell more -/
section
variable {P : Program} {ops : Array Oper} {Q : Exit → Act → World → Prop} {rest : List Oper} {a : Act} {W : World} {L L' : List Ent} {u : KW W L} {d : Tmp} {t ty : TypeId} {ps : String} {af : Array Edge} {x y : Operand}
theorem list_alloc_n {c : Array Value} (hz : Zero P t c)
    (h : ∀ (g : Nat) (u' : KW W (⟨g, c, t⟩ :: L)), u.w.heap.size ≤ g → Below u.w.heap.size u.w u'.w → wpList P ops Q rest (a.put (some d) (.pointer (some ⟨g, 0, none⟩))) u'.w) :
    wpList P ops Q (⟨some d, .alloc t, ty, ps, af, none⟩ :: rest) a u.w := by
  obtain ⟨i, hi, hz'⟩ := Option.map_eq_some_iff.1 hz
  obtain ⟨v, hv, rfl⟩ := Option.map_eq_some_iff.1 hz'
  refine wpList_plain rfl fun K hK => ?_
  unfold Oper.wp execOp
  have hr : (Instr.alloc t true (.tuple #[])).run P u.w = .ok (.pointer (some ⟨u.w.heap.size, 0, none⟩)) (u.alloc v.cells t).w := by
    simp [Instr.alloc, zeroValue, typeInfo, hi, hv, newVar, newRow, KW.alloc, go_sem]
  simp only [Sem.run_bind, hr, Result.andThen_ok, Sem.run_pure]
  exact hK _ _ (h _ (u.alloc v.cells t) (Nat.le_refl _) ((Below.refl _ _).alloc (Nat.le_refl _) _))
theorem lst_store_k {g : Nat} {c c' : Array Value} {n : Nat}
    (hx : a.eval x = .pointer (some ⟨g, 0, none⟩)) (hy : a.eval y = .agg c') (hp : PutAll L g c' c L') (hr : Row P t n) (hn : c.size = n) (hn' : c'.size = n)
    (h1 : c'.all (·.oneCell') = true) (h : ∀ u' : KW W L', (∀ k, k ≠ g → u'.w.heap[k]? = u.w.heap[k]?) → (∀ B, B ≤ g → Below B u.w u'.w) → wpList P ops Q rest a u'.w) : wpList P ops Q (⟨none, .store t x y, ty, ps, af, none⟩ :: rest) a u.w := by
  obtain ⟨u', hu'⟩ := u.ex_row (h := hp)
  obtain ⟨A, t', B, hL, _⟩ := hp.out
  have hg := (u.mem ⟨g, c, t'⟩ (by rw [hL]; simp)).1
  refine wpList_plain rfl fun K hK => ?_
  unfold Oper.wp execOp
  simp only [hx, hy, Instr.storeAt, Instr.sureAddr, Sem.run_bind, Sem.run_pure, Result.andThen_ok, run_storeVar_row u.w g t' t c c' hg (by rw [hn']; exact hr.2) (by omega) h1]
  rw [hu']
  refine hK _ _ (h u' (fun k hk => by rw [← hu']; exact heap_setRow_other _ _ _ _ hk) fun B hB => ?_)
  rw [← hu']
  exact ⟨rfl, rfl, rfl, by rw [size_setRow]; exact Nat.le_refl _, fun k hk => heap_setRow_other _ _ _ _ (by omega)⟩
end
end KM

/- Regions that draw their order, for any program, told by what is known of memory: operations that answer the same wherever certain blocks are known (loads, calls that make memory, reckoning) are taken first, in whatever place they come; what makes blocks or stores whole ones comes in one order. -/
namespace KM
open Go Go.RowKit
section
variable (P : Program) (W : World) (Lc : List Ent)
/-- how an operation ends: with a value, in a world of which Lc's blocks and more are known -/
def Ends (K : Value → List Ent → Prop) : Result Next → Prop
  | .ok (.value v) w => ∃ L' : List Ent, Sub Lc L' ∧ Known W L' w ∧ K v L'
  | .ok .skip w => ∃ L' : List Ent, Sub Lc L' ∧ Known W L' w ∧ K undef L'
  | .ok (.enter f args) w => Calls P f args w fun e w' => ∃ (v : Value) (L' : List Ent), e = .returned v ∧ Sub Lc L' ∧ Known W L' w' ∧ K v L'
  | _ => False
/-- from whatever world in which L's blocks are known -/
def StepE (m : Sem Next) (L : List Ent) (K : Value → List Ent → Prop) : Prop := ∀ u : KW W L, Ends P W Lc K (m.run P u.w)
variable {P W Lc}
theorem Ends.mono {K K' : Value → List Ent → Prop} (h : ∀ v L', K v L' → K' v L') {r : Result Next} (hr : Ends P W Lc K r) : Ends P W Lc K' r := by
  cases r with
  | ok n w =>
    cases n with
    | value v => obtain ⟨L', h1, h2, h3⟩ := hr; exact ⟨L', h1, h2, h _ _ h3⟩
    | skip => obtain ⟨L', h1, h2, h3⟩ := hr; exact ⟨L', h1, h2, h _ _ h3⟩
    | enter f args => exact Calls.mono hr fun e w' ⟨v, L', h0, h1, h2, h3⟩ => ⟨v, L', h0, h1, h2, h _ _ h3⟩
    | _ => exact hr.elim
  | _ => exact hr.elim
theorem StepE.mono {m : Sem Next} {L : List Ent} {K K' : Value → List Ent → Prop} (h : ∀ v L', K v L' → K' v L') (hs : StepE P W Lc m L K) : StepE P W Lc m L K' := fun u => (hs u).mono h
theorem upon_of_ends {o : Oper} {a : Act} {next : Act → World → Prop} {Q : Exit → Act → World → Prop} {K : Value → List Ent → Prop} (h : ∀ v L' (u : KW W L'), K v L' → next (a.put o.dst v) u.w) {r : Result Next} (hr : Ends P W Lc K r) : o.upon P a next Q r := by
  cases r with
  | ok n w =>
    cases n with
    | value v => obtain ⟨L', h1, ⟨u, rfl⟩, h3⟩ := hr; exact h _ _ u h3
    | skip => obtain ⟨L', h1, ⟨u, rfl⟩, h3⟩ := hr; exact h _ _ u h3
    | enter f args =>
      refine Calls.mono hr fun e w' ⟨v, L', h0, h1, ⟨u, hu⟩, h3⟩ => ?_
      subst h0 hu
      exact h _ _ u h3
    | _ => exact hr.elim
  | _ => exact hr.elim
end
section
variable {P : Program} {ops : Array Oper} {md : Region.Mode} {Q : Exit → Act → World → Prop} {W : World} {Lc : List Ent}
/-- whatever may come up comes up, from whatever world in which L's blocks are known -/
def anyS (P : Program) (md : Region.Mode) (ops : Array Oper) (Q : Exit → Act → World → Prop) (W : World) (Lc : List Ent) : Nat → Array Bool → Act → List Ent → Prop
  | 0, ls, a, L => Region.ready md ops ls = [] ∧ ∀ u : KW W L, Q .normal a u.w
  | f + 1, ls, a, L => (Region.ready md ops ls = [] → ∀ u : KW W L, Q .normal a u.w) ∧ ∀ i ∈ Region.ready md ops ls, ∃ o, ops[i]? = some o ∧ o.guard = none ∧
      StepE P W Lc (execOp a.eval o) L fun v L' => anyS P md ops Q W Lc f (ls.setIfInBounds i true) (a.put o.dst v) L'
theorem any_sound : ∀ (f : Nat) (ls : Array Bool) (a : Act) (L : List Ent) (u : KW W L), anyS P md ops Q W Lc f ls a L → wpAny P md ops Q f ls a u.w
  | 0, _, _, _, u, h => ⟨h.1, h.2 u⟩
  | f + 1, ls, a, L, u, h => ⟨fun h0 => h.1 h0 u, fun i hi => by
    obtain ⟨o, ho, hg, hs⟩ := h.2 i hi
    unfold wpOp
    simp only [ho]
    rw [if_pos (wanted_none hg _)]
    exact Or.inl (upon_of_ends (fun v L' u' h' => any_sound f _ _ L' u' h') (hs u))⟩
/-- an operation that answers v wherever Lc's blocks are known, and leaves known what is known -/
def Says (P : Program) (W : World) (Lc : List Ent) (m : Sem Next) (v : Value) : Prop := ∀ L, Sub Lc L → StepE P W Lc m L fun v' L' => v' = v ∧ L' = L
theorem any_first {i : Nat} {oi : Oper} {v : Value} (hi : ops[i]? = some oi) (hgi : oi.guard = none) (hsel : ∀ (j : Nat) (o : Oper) cs b, ops[j]? = some o → o.op ≠ .select cs b) :
    ∀ (f : Nat) (ls : Array Bool) (a : Act) (L : List Ent),
      (∀ j oj, ops[j]? = some oj → j ≠ i → ls.getD j true = false → (∀ e ∈ oj.after, Region.binds md e = true → e.on ≠ i) → oi.apart ops oj = true) →
      i ∈ Region.ready md ops ls → Says P W Lc (execOp a.eval oi) v → Sub Lc L →
      anyS P md ops Q W Lc f (ls.setIfInBounds i true) (a.put oi.dst v) L → anyS P md ops Q W Lc (f + 1) ls a L := by
  intro f
  induction f with
  | zero =>
    intro ls a L _ hr hy hS H
    refine ⟨fun h => (by rw [h] at hr; cases hr), fun j hj => ?_⟩
    by_cases hji : j = i
    · subst hji
      exact ⟨oi, hi, hgi, (hy L hS).mono fun v' L' ⟨e1, e2⟩ => by subst e1 e2; exact H⟩
    · have := ready_mono hj hji
      rw [H.1] at this
      cases this
  | succ f ih =>
    intro ls a L hfree hr hy hS H
    refine ⟨fun h => (by rw [h] at hr; cases hr), fun j hj => ?_⟩
    by_cases hji : j = i
    · subst hji
      exact ⟨oi, hi, hgi, (hy L hS).mono fun v' L' ⟨e1, e2⟩ => by subst e1 e2; exact H⟩
    · obtain ⟨oj, hoj, hgj, hst⟩ := H.2 j (ready_mono hj hji)
      obtain ⟨hjun, oj', hoj', hall⟩ := mem_ready.1 hj
      obtain rfl : oj' = oj := Option.some.inj (hoj'.symm.trans hoj)
      have hun := (mem_ready.1 hr).1
      have hnot : ∀ e ∈ oj'.after, Region.binds md e = true → e.on ≠ i := fun e he hb heq => by
        have h1 := hall e he hb
        rw [heq, getD_both hun] at h1
        cases h1
      obtain ⟨h1, h2, h3⟩ := Oper.apart_spec (hfree j oj' hoj hji hjun hnot)
      rw [execOp_put oj' (fun cs b => hsel j oj' cs b hoj) a oi.dst v h1] at hst
      have hfree' : ∀ k ok, ops[k]? = some ok → k ≠ i → (ls.setIfInBounds j true).getD k true = false →
          (∀ e ∈ ok.after, Region.binds md e = true → e.on ≠ i) → oi.apart ops ok = true := fun k ok hk hki hkn hno => by
        refine hfree k ok hk hki ?_ hno
        by_cases hjk : j = k
        · subst hjk; exact hjun
        · rw [getD_set_ne true hjk] at hkn; exact hkn
      refine ⟨oj', hoj, hgj, fun u => ?_⟩
      have hE := hst u
      -- what j leaves: in each case a value, and more known blocks
      have key : ∀ (v' : Value) (L' : List Ent), Sub Lc L' → anyS P md ops Q W Lc f ((ls.setIfInBounds i true).setIfInBounds j true) ((a.put oi.dst v).put oj'.dst v') L' →
          anyS P md ops Q W Lc (f + 1) (ls.setIfInBounds j true) (a.put oj'.dst v') L' := fun v' L' hs' h' => by
        refine ih _ _ L' hfree' (ready_mono hr (Ne.symm hji)) ?_ hs' ?_
        · rw [execOp_put oi (fun cs b => hsel i oi cs b hi) a oj'.dst v' h3]; exact hy
        · rw [← Act.put_comm a v v' h2, Array.setIfInBounds_comm _ _ hji]; exact h'
      generalize (execOp a.eval oj').run P u.w = r at hE
      cases r with
      | ok n w =>
        cases n with
        | value v' => obtain ⟨L', e1, e2, e3⟩ := hE; exact ⟨L', e1, e2, key _ _ e1 e3⟩
        | skip => obtain ⟨L', e1, e2, e3⟩ := hE; exact ⟨L', e1, e2, key _ _ e1 e3⟩
        | enter fn args => exact Calls.mono hE fun e w' ⟨v', L', e0, e1, e2, e3⟩ => ⟨v', L', e0, e1, e2, key _ _ e1 e3⟩
        | _ => exact hE.elim
      | _ => exact hE.elim
/-- operations of one order, told with what is known -/
def tailS (P : Program) (Q : Exit → Act → World → Prop) (W : World) (Lc : List Ent) : List Oper → Act → List Ent → Prop
  | [], a, L => ∀ u : KW W L, Q .normal a u.w
  | o :: r, a, L => o.guard = none ∧ StepE P W Lc (execOp a.eval o) L fun v L' => tailS P Q W Lc r (a.put o.dst v) L'
def headS (P : Program) (W : World) (Lc : List Ent) (T : Act → Prop) : List Oper → Act → Prop
  | [], a => T a
  | o :: r, a => o.guard = none ∧ ∃ v, Says P W Lc (execOp a.eval o) v ∧ headS P W Lc T r (a.put o.dst v)
theorem any_tail {l : List Oper} (hl : ops = l.toArray) : ∀ (rs : List Nat) (ls : Array Bool) (a : Act) (L : List Ent), seqLB md ops rs ls = true → tailS P Q W Lc (pick l rs) a L → anyS P md ops Q W Lc rs.length ls a L
  | [], ls, a, L, hB, h => ⟨by simpa [seqLB] using hB, h⟩
  | r :: rs, ls, a, L, hB, h => by
    simp only [seqLB, Bool.and_eq_true, decide_eq_true_eq] at hB
    obtain ⟨o, h0⟩ := Option.isSome_iff_exists.1 hB.1.2
    have h0' : l[r]? = some o := by rw [hl] at h0; simpa using h0
    simp only [pick, List.filterMap_cons, h0'] at h
    refine ⟨fun h1 => (by rw [hB.1.1] at h1; cases h1), fun i hi => ?_⟩
    rw [hB.1.1] at hi
    have hik : i = r := by simpa using hi
    subst hik
    exact ⟨o, h0, h.1, h.2.mono fun v L' h' => any_tail hl rs _ _ L' hB.2 h'⟩
theorem any_head {l : List Oper} {rs : List Nat} {T : Act → Prop} {L : List Ent} (hl : ops = l.toArray) (hsel : Region.noSelect ops = true) (hs : Sub Lc L)
    (hT : ∀ ls a, seqLB md ops rs ls = true → T a → anyS P md ops Q W Lc rs.length ls a L) : ∀ (ks : List Nat) (ls : Array Bool) (a : Act), pickB md ops rs ks ls = true → headS P W Lc T (pick l ks) a → anyS P md ops Q W Lc (ks.length + rs.length) ls a L
  | [], ls, a, hB, h => by
    rw [List.length_nil, Nat.zero_add]
    exact hT ls a hB h
  | k :: ks, ls, a, hB, h => by
    simp only [pickB, Bool.and_eq_true] at hB
    obtain ⟨o, h0⟩ := Option.isSome_iff_exists.1 hB.1.2
    have h0' : l[k]? = some o := by rw [hl] at h0; simpa using h0
    simp only [pick, List.filterMap_cons, h0'] at h
    obtain ⟨hg, v, hy, hR⟩ := h
    rw [List.length_cons, Nat.add_right_comm]
    exact any_first h0 hg (Region.noSelect_spec hsel) _ ls a L (Region.free_spec h0 hB.1.1.2) (by simpa using hB.1.1.1) hy hs (any_head hl hsel hs hT ks _ _ hB.2 hR)
/-- THE LAW: operations ks answer the same wherever Lc's blocks are known; those of rs come in one order -/
theorem region_any {id : Nat} {l : List Oper} {a : Act} {L : List Ent} {u : KW W L} (ks rs : List Nat) (Lc : List Ent) (hs : Sub Lc L) (hm : P.follows .mixedOrders = true) (hB : (Region.noSelect l.toArray && decide (ks.length + rs.length = l.length) && pickB .any l.toArray rs ks (Array.replicate l.length false)) = true)
    (h : headS P W Lc (fun a' => tailS P Q W Lc (pick l rs) a' L) (pick l ks) a) : (Code.region id l.toArray true).wp P Q a u.w := by
  simp only [Bool.and_eq_true, decide_eq_true_eq] at hB
  refine wp_region_any hm ?_
  have A := any_head (md := .any) (Q := Q) (rs := rs) rfl hB.1.1 hs (fun ls a' hq hT => any_tail rfl rs ls a' L hq hT) ks _ a hB.2 h
  rw [hB.1.2] at A
  have e : l.toArray.size = l.length := by simp
  rw [e]
  exact any_sound _ _ _ L u.drew A
end
/-! ### single operations -/
section
variable {P : Program} {Q : Exit → Act → World → Prop} {rest : List Oper} {a : Act} {W : World} {L L' Lc : List Ent} {d : Tmp} {t ty : TypeId} {ps : String} {af : Array Edge} {x y : Operand} {T : Act → Prop}
theorem head_nil (h : T a) : headS P W Lc T [] a := h
theorem head_value {op : Op} {d : Option Tmp} {v : Value} (hv : ∀ w, (execOp a.eval ⟨d, op, ty, ps, af, none⟩).run P w = .ok (.value v) w) (h : headS P W Lc T rest (a.put d v)) : headS P W Lc T (⟨d, op, ty, ps, af, none⟩ :: rest) a :=
  ⟨rfl, v, fun L hL u => by rw [hv]; exact ⟨L, hL, ⟨u, rfl⟩, rfl, rfl⟩, h⟩
theorem head_load {g : Nat} {c : Array Value} {t' : TypeId} {n : Nat} (hx : a.eval x = .pointer (some ⟨g, 0, none⟩)) (hp : Has Lc g c t') (hr : Row P t n) (hn : c.size = n)
    (h : headS P W Lc T rest (a.put (some d) (.agg c))) : headS P W Lc T (⟨some d, .load t x, ty, ps, af, none⟩ :: rest) a := by
  refine ⟨rfl, .agg c, fun L hL u => ?_, h⟩
  have hp' : Has L g c t' := ⟨hL.out.subset hp.out⟩
  unfold execOp
  simp only [hx, Sem.run_bind, run_load u (h := hp') hr hn, Result.andThen_ok, Sem.run_pure]
  exact ⟨L, hL, ⟨u, rfl⟩, rfl, rfl⟩
theorem head_call {op : Op} {d : Option Tmp} {f : FuncId} {args : Array Value} {v : Value} (he : ∀ w, (execOp a.eval ⟨d, op, ty, ps, af, none⟩).run P w = .ok (.enter f args) w) (hc : ∀ w, Calls P f args w (Ret v w)) (h : headS P W Lc T rest (a.put d v)) : headS P W Lc T (⟨d, op, ty, ps, af, none⟩ :: rest) a := by
  refine ⟨rfl, v, fun L hL u => ?_, h⟩
  rw [he]
  refine (hc u.w).mono fun e w' ⟨h1, hb⟩ => ?_
  obtain ⟨u', hu'⟩ := u.go hb
  exact ⟨v, L, h1, hL, ⟨u', hu'⟩, rfl, rfl⟩
theorem tailS_nil (h : ∀ u : KW W L, Q .normal a u.w) : tailS P Q W Lc [] a L := h
theorem tailS_value {op : Op} {d : Option Tmp} {v : Value} (hv : ∀ w, (execOp a.eval ⟨d, op, ty, ps, af, none⟩).run P w = .ok (.value v) w) (hs : Sub Lc L) (h : tailS P Q W Lc rest (a.put d v) L) : tailS P Q W Lc (⟨d, op, ty, ps, af, none⟩ :: rest) a L :=
  ⟨rfl, fun u => by rw [hv]; exact ⟨L, hs, ⟨u, rfl⟩, h⟩⟩
theorem tailS_load {g : Nat} {c : Array Value} {t' : TypeId} {n : Nat} (hx : a.eval x = .pointer (some ⟨g, 0, none⟩)) (hp : Has L g c t') (hs : Sub Lc L) (hr : Row P t n) (hn : c.size = n)
    (h : tailS P Q W Lc rest (a.put (some d) (.agg c)) L) : tailS P Q W Lc (⟨some d, .load t x, ty, ps, af, none⟩ :: rest) a L := by
  refine ⟨rfl, fun u => ?_⟩
  unfold execOp
  simp only [hx, Sem.run_bind, run_load u (h := hp) hr hn, Result.andThen_ok, Sem.run_pure]
  exact ⟨L, hs, ⟨u, rfl⟩, h⟩
theorem tailS_store {g : Nat} {c c' : Array Value} {n : Nat} (hx : a.eval x = .pointer (some ⟨g, 0, none⟩)) (hy : a.eval y = .agg c') (hp : PutAll L g c' c L') (hs : Sub Lc L') (hr : Row P t n) (hn : c.size = n) (hn' : c'.size = n)
    (h1 : c'.all (·.oneCell') = true) (h : tailS P Q W Lc rest a L') : tailS P Q W Lc (⟨none, .store t x y, ty, ps, af, none⟩ :: rest) a L := by
  refine ⟨rfl, fun u => ?_⟩
  obtain ⟨u', hu'⟩ := u.ex_row (h := hp)
  obtain ⟨A, t', B, hL, _⟩ := hp.out
  have hg := (u.mem ⟨g, c, t'⟩ (by rw [hL]; simp)).1
  unfold execOp
  simp only [hx, hy, Instr.storeAt, Instr.sureAddr, Sem.run_bind, Sem.run_pure, Result.andThen_ok, run_storeVar_row u.w g t' t c c' hg (by rw [hn']; exact hr.2) (by omega) h1]
  rw [hu']
  exact ⟨L', hs, ⟨u', rfl⟩, h⟩
theorem tailS_alloc {c : Array Value} (hz : Zero P t c) (hs : Sub Lc L) (h : ∀ g, tailS P Q W Lc rest (a.put (some d) (.pointer (some ⟨g, 0, none⟩))) (⟨g, c, t⟩ :: L)) : tailS P Q W Lc (⟨some d, .alloc t, ty, ps, af, none⟩ :: rest) a L := by
  refine ⟨rfl, fun u => ?_⟩
  obtain ⟨i, hi, hz'⟩ := Option.map_eq_some_iff.1 hz
  obtain ⟨v, hv, rfl⟩ := Option.map_eq_some_iff.1 hz'
  have hr : (Instr.alloc t true (.tuple #[])).run P u.w = .ok (.pointer (some ⟨u.w.heap.size, 0, none⟩)) (u.alloc v.cells t).w := by
    simp [Instr.alloc, zeroValue, typeInfo, hi, hv, newVar, newRow, KW.alloc, go_sem]
  unfold execOp
  simp only [Sem.run_bind, hr, Result.andThen_ok, Sem.run_pure]
  exact ⟨_, Sub.skip (h := hs), ⟨u.alloc v.cells t, rfl⟩, h _⟩
theorem tailS_box {c : Array Value} (hx : a.eval x = .agg c) (hs : Sub Lc L) (h : ∀ g, tailS P Q W Lc rest (a.put (some d) (.pointer (some ⟨g, 0, none⟩))) (⟨g, c, t⟩ :: L)) : tailS P Q W Lc (⟨some d, .box t x, ty, ps, af, none⟩ :: rest) a L := by
  refine ⟨rfl, fun u => ?_⟩
  have hr : (Instr.box t (a.eval x)).run P u.w = .ok (.pointer (some ⟨u.w.heap.size, 0, none⟩)) (u.alloc c t).w := by
    rw [hx]; simp [Instr.box, newVar, newRow, Value.cells, KW.alloc, go_sem]
  unfold execOp
  simp only [Sem.run_bind, hr, Result.andThen_ok, Sem.run_pure]
  exact ⟨_, Sub.skip (h := hs), ⟨u.alloc c t, rfl⟩, h _⟩
theorem tailS_call {op : Op} {d : Option Tmp} {f : FuncId} {args : Array Value} {v : Value} (he : ∀ w, (execOp a.eval ⟨d, op, ty, ps, af, none⟩).run P w = .ok (.enter f args) w) (hs : Sub Lc L) (hc : ∀ w, Calls P f args w (Ret v w)) (h : tailS P Q W Lc rest (a.put d v) L) : tailS P Q W Lc (⟨d, op, ty, ps, af, none⟩ :: rest) a L := by
  refine ⟨rfl, fun u => ?_⟩
  rw [he]
  refine (hc u.w).mono fun e w' ⟨h1, hb⟩ => ?_
  obtain ⟨u', hu'⟩ := u.go hb
  exact ⟨v, L, h1, hs, ⟨u', hu'⟩, h⟩
end
end KM

/- Parts of blocks by value, for any program: a struct's field that is itself a row of cells is loaded and stored whole; rows that are known for a type. -/
namespace KM
open Go Go.RowKit
/-- cells of type t -/
class Cel (P : Program) (t : TypeId) (c : Array Value) : Prop where
  row : Row P t c.size
  one : c.all (·.oneCell') = true
/-- the cells of c from o on are, as type t, c' -/
class Part (P : Program) (t : TypeId) (c : Array Value) (o : Nat) (c' : outParam (Array Value)) : Prop where
  row : Row P t c'.size
  at_ : ∀ j, j < c'.size → c[o + j]? = c'[j]?
instance (priority := low) Part.whole {P : Program} {t : TypeId} {c : Array Value} [h : Cel P t c] : Part P t c 0 c := ⟨h.row, fun j _ => by rw [Nat.zero_add]⟩
def splice : Array Value → Nat → List Value → Array Value
  | c, _, [] => c
  | c, o, v :: r => splice (c.setIfInBounds o v) (o + 1) r
/-- c' put into c from o on, as type t, makes c'' -/
class PutP (P : Program) (t : TypeId) (c : Array Value) (o : Nat) (c' : Array Value) (c'' : outParam (Array Value)) : Prop where
  row : Row P t c'.size
  one : c'.all (·.oneCell') = true
  fits : o + c'.size ≤ c.size
  at_ : splice c o c'.toList = c''
theorem splice_size : ∀ (vs : List Value) (c : Array Value) (o : Nat), (splice c o vs).size = c.size
  | [], _, _ => rfl
  | v :: r, c, o => by rw [splice, splice_size r]; simp
theorem splice_get : ∀ (vs : List Value) (c : Array Value) (o : Nat), o + vs.length ≤ c.size → ∀ j, (splice c o vs)[j]? = if o ≤ j ∧ j < o + vs.length then vs[j - o]? else c[j]?
  | [], c, o, _, j => by rw [if_neg (by rintro ⟨h1, h2⟩; exact absurd h2 (Nat.not_lt_of_le (by simpa using h1)))]; rfl
  | v :: r, c, o, h, j => by
    rw [List.length_cons] at h ⊢
    rw [splice, splice_get r _ (o + 1) (by simp; omega) j]
    by_cases h1 : o + 1 ≤ j ∧ j < o + 1 + r.length
    · rw [if_pos h1, if_pos (by omega), show j - o = (j - (o + 1)) + 1 by omega, List.getElem?_cons_succ]
    · rw [if_neg h1]
      by_cases e : j = o
      · subst e
        rw [if_pos (by omega), Nat.sub_self, List.getElem?_cons_zero, Array.getElem?_setIfInBounds_self_of_lt (by omega)]
      · rw [if_neg (by omega), Array.getElem?_setIfInBounds_ne (fun h => e h.symm)]
theorem splice_whole {c c' : Array Value} (h : c.size = c'.size) : splice c 0 c'.toList = c' := by
  apply Array.ext_getElem?
  intro j
  rw [splice_get _ _ _ (by simp; omega)]
  by_cases hj : j < c'.size
  · rw [if_pos (by simp; omega)]; simp
  · rw [if_neg (by simp; omega), Array.getElem?_eq_none (by omega), Array.getElem?_eq_none (by omega)]
/-- both are rows of n cells -/
theorem PutP.of {P : Program} {t : TypeId} {c c' : Array Value} (h : Cel P t c') (hn : c.size = c'.size) : PutP P t c 0 c' c' := ⟨h.row, h.one, by omega, splice_whole hn⟩
/-- c is what a new variable of type t holds -/
class ZeroC (P : Program) (t : TypeId) (c : outParam (Array Value)) : Prop where
  out : Zero P t c
section
variable {P : Program} {W : World} {L L' : List Ent}
theorem row_under {t : TypeId} {n : Nat} (h : Row P t n) : ∃ d, P.underlying t = some d ∧ d.isRow = true := by
  have h1 := h.1
  cases hd : P.underlying t with
  | none => rw [hd] at h1; simp at h1
  | some d => rw [hd] at h1; exact ⟨d, rfl, by cases d <;> simp_all⟩
theorem run_part_row {t : TypeId} {n : Nat} (hr : Row P t n) (w : World) (cs : Array Value) (off : Nat) : (part t cs off).run P w = .ok (.agg (cs.extract off (off + n))) w := by
  obtain ⟨d, hu, hd⟩ := row_under hr
  have hagg : (isAgg t).run P w = .ok true w := by
    unfold isAgg
    rw [Sem.run_bind, run_underlying hu w]
    cases d <;> simp_all
  have h2 := hr.2
  cases hq : P.info? t with
  | none => rw [hq] at h2; simp at h2
  | some i =>
    have hs : i.size = n := by rw [hq] at h2; simpa using h2
    simp [part, Sem.run_bind, hagg, Go.sizeOf, typeInfo, hq, hs]
theorem run_part (u : KW W L) {g o : Nat} {c c' : Array Value} {t t' : TypeId} (hp : Has L g c t') (hq : Part P t c o c') :
    (loadVar t ⟨g, o, none⟩).run P u.w = .ok (.agg c') u.w := by
  obtain ⟨d, hu, hd⟩ := row_under hq.row
  have := run_loadVar_mid (P := P) u.w g o t c'.toList d (fun j v hj => by
    have hj' : c'[j]? = some v := by simpa using hj
    have hl : j < c'.size := (Array.getElem?_eq_some_iff.1 hj').1
    rw [u.cell? (h := hp), hq.at_ j hl, hj']) hu hd (by rw [hq.row.2]; simp)
  simpa using this
theorem run_loadAt_part (u : KW W L) {g o : Nat} {c c' : Array Value} {t t' : TypeId} (hp : Has L g c t') (hq : Part P t c o c') :
    (Instr.loadAt t (.pointer (some ⟨g, o, none⟩))).run P u.w = .ok (.agg c') u.w := by
  simp only [Instr.loadAt, Instr.sureAddr, Sem.run_bind, Sem.run_pure, Result.andThen_ok, run_part u hp hq]
theorem KW.ex_cells {g : Nat} {t : TypeId} {A B : List Ent} : ∀ (vs : List Value) (c : Array Value) (o : Nat) (u : KW W (A ++ ⟨g, c, t⟩ :: B)), ∃ u' : KW W (A ++ ⟨g, splice c o vs, t⟩ :: B), u.w.setCells g o vs = u'.w
  | [], c, o, u => ⟨u, rfl⟩
  | v :: r, c, o, u => by
    obtain ⟨u1, h1⟩ := u.ex_cell (L' := A ++ ⟨g, c.setIfInBounds o v, t⟩ :: B) (h := ⟨⟨A, t, B, rfl, rfl⟩⟩)
    obtain ⟨u2, h2⟩ := KW.ex_cells r _ (o + 1) u1
    exact ⟨u2, by rw [World.setCells, h1, h2]⟩
theorem ex_part (u : KW W L) {g o : Nat} {c c' c'' : Array Value} {t t' : TypeId} (hp : Has L g c t') (hq : PutP P t c o c' c'') (hL : PutAll L g c'' c L') :
    ∃ u' : KW W L', (storeVar t ⟨g, o, none⟩ (.agg c')).run P u.w = .ok () u'.w := by
  obtain ⟨A, t1, B, rfl, rfl⟩ := hL.out
  obtain ⟨u', hu'⟩ := KW.ex_cells (g := g) c'.toList c o u
  have e := hq.at_
  subst e
  refine ⟨u', ?_⟩
  have hm := u.mem ⟨g, c, t1⟩ (by simp)
  have hb : u.w.heap[g]? = some (.cells c t1 (0, 0)) := hm.1
  rw [← hu']
  have hf := hq.fits
  refine run_storeVar_mid (P := P) u.w g o t c' (fun j hj => ⟨?_, ?_⟩) hq.row.2 hq.one
  · rw [cell_of_row _ _ _ _ _ _ hb, Array.getElem?_eq_getElem (by omega)]; rfl
  · exact frozen_of_row _ _ _ _ _ hb
end
/-- v put into c at o, as a variable of type t, makes c' -/
class PutV (P : Program) (t : TypeId) (c : Array Value) (o : Nat) (v : Value) (c' : outParam (Array Value)) : Prop where
  size : (P.info? t).map (·.size) = some 1
  one : v.oneCell' = true
  cells : v.cells = #[v]
  fits : o < c.size
  at_ : c.setIfInBounds o v = c'
theorem ex_put {P : Program} {W : World} {L L' : List Ent} (u : KW W L) {g o : Nat} {c c' : Array Value} {t t' : TypeId} {v : Value} (hp : Has L g c t') (hq : PutV P t c o v c') (hL : PutAll L g c' c L') :
    ∃ u' : KW W L', (storeVar t ⟨g, o, none⟩ v).run P u.w = .ok () u'.w := by
  obtain ⟨A, t1, B, rfl, rfl⟩ := hL.out
  have e := hq.at_
  subst e
  obtain ⟨u', hu'⟩ := KW.ex_cells (g := g) [v] c o u
  refine ⟨u', ?_⟩
  have hb : u.w.heap[g]? = some (.cells c t1 (0, 0)) := (u.mem ⟨g, c, t1⟩ (by simp)).1
  rw [← hu']
  have hf := hq.fits
  have h1 := run_storeVar_mid (P := P) u.w g o t #[v] (fun j hj => ⟨by rw [cell_of_row _ _ _ _ _ _ hb, Array.getElem?_eq_getElem (by simp at hj; omega)]; rfl, frozen_of_row _ _ _ _ _ hb⟩) hq.size (by simpa using hq.one)
  have h2 : storeVar t ⟨g, o, none⟩ v = storeVar t ⟨g, o, none⟩ (.agg #[v]) := by
    unfold storeVar
    rw [hq.cells, show (Value.agg #[v]).cells = #[v] from rfl]
  rw [h2]
  exact h1
/-! what an operation is, told ahead of its law: '(with_reducible refine ck_load ?_)' fails at once where it is another -/
section
variable {P : Program} {ops : Array Oper} {Q : Exit → Act → World → Prop} {rest : List Oper} {a : Act} {w : World} {d : Tmp} {dq : Option Tmp} {t ty : TypeId} {ps : String} {af : Array Edge} {x y : Operand} {gd : Nat × Bool} {xs : Array (Nat × Operand)}
theorem ck_load (h : wpList P ops Q (⟨some d, .load t x, ty, ps, af, none⟩ :: rest) a w) : wpList P ops Q (⟨some d, .load t x, ty, ps, af, none⟩ :: rest) a w := h
theorem ck_gload (h : wpList P ops Q (⟨some d, .load t x, ty, ps, af, some gd⟩ :: rest) a w) : wpList P ops Q (⟨some d, .load t x, ty, ps, af, some gd⟩ :: rest) a w := h
theorem ck_box (h : wpList P ops Q (⟨some d, .box t x, ty, ps, af, none⟩ :: rest) a w) : wpList P ops Q (⟨some d, .box t x, ty, ps, af, none⟩ :: rest) a w := h
theorem ck_alloc (h : wpList P ops Q (⟨some d, .alloc t, ty, ps, af, none⟩ :: rest) a w) : wpList P ops Q (⟨some d, .alloc t, ty, ps, af, none⟩ :: rest) a w := h
theorem ck_store (h : wpList P ops Q (⟨none, .store t x y, ty, ps, af, none⟩ :: rest) a w) : wpList P ops Q (⟨none, .store t x y, ty, ps, af, none⟩ :: rest) a w := h
theorem ck_build (h : wpList P ops Q (⟨dq, .build t xs, ty, ps, af, none⟩ :: rest) a w) : wpList P ops Q (⟨dq, .build t xs, ty, ps, af, none⟩ :: rest) a w := h
theorem ck_gbuild (h : wpList P ops Q (⟨dq, .build t xs, ty, ps, af, some gd⟩ :: rest) a w) : wpList P ops Q (⟨dq, .build t xs, ty, ps, af, some gd⟩ :: rest) a w := h
/-- an operation whose guard is not met -/
theorem ls_skip {op : Op} (hw : Region.wanted ⟨dq, op, ty, ps, af, some gd⟩ (yielded ops a.tmps) = false) (h : wpList P ops Q rest (a.put dq undef) w) : wpList P ops Q (⟨dq, op, ty, ps, af, some gd⟩ :: rest) a w := by
  unfold wpList
  rw [if_neg (by rw [hw]; decide)]
  exact h
end
section
variable {P : Program} {ops : Array Oper} {Q : Exit → Act → World → Prop} {rest : List Oper} {a : Act} {W : World} {L L' Lc : List Ent} {u : KW W L}
  {d : Tmp} {t ty : TypeId} {ps : String} {af : Array Edge} {x y : Operand} {T : Act → Prop}
theorem ls_alloc {c : Array Value} (hz : ZeroC P t c) (h : ∀ (g : Nat) (u' : KW W (⟨g, c, t⟩ :: L)), wpList P ops Q rest (a.put (some d) (.pointer (some ⟨g, 0, none⟩))) u'.w) :
    wpList P ops Q (⟨some d, .alloc t, ty, ps, af, none⟩ :: rest) a u.w := list_alloc hz.out h
theorem ls_value {op : Op} {v : Value} {w : World} {d : Option Tmp} (hv : (execOp a.eval ⟨d, op, ty, ps, af, none⟩).run P w = .ok (.value v) w) (h : wpList P ops Q rest (a.put d v) w) : wpList P ops Q (⟨d, op, ty, ps, af, none⟩ :: rest) a w := by
  refine wpList_plain rfl fun K hK => ?_
  unfold Oper.wp
  rw [hv]
  exact hK _ _ h
theorem exec_build {gd : Option (Nat × Bool)} {d : Option Tmp} {parts : Array (Nat × Operand)} {c : Array Value} (h : P.built t (parts.map fun (i, x) => (i, a.eval x)).toList = some c) (w : World) :
    (execOp a.eval ⟨d, .build t parts, ty, ps, af, gd⟩).run P w = .ok (.value (.agg c)) w := by
  unfold execOp
  simp only [Sem.run_bind, run_build w t _ c h, Result.andThen_ok, Sem.run_pure]
theorem ls_load {g o : Nat} {c c' : Array Value} {t' : TypeId} (hx : a.eval x = .pointer (some ⟨g, o, none⟩)) (hp : Has L g c t') (hq : Part P t c o c')
    (h : wpList P ops Q rest (a.put (some d) (.agg c')) u.w) : wpList P ops Q (⟨some d, .load t x, ty, ps, af, none⟩ :: rest) a u.w := by
  refine wpList_plain rfl fun K hK => ?_
  unfold Oper.wp execOp
  simp only [hx, Sem.run_bind, run_loadAt_part u hp hq, Result.andThen_ok, Sem.run_pure]
  exact hK _ _ h
theorem lsg_load {gd : Option (Nat × Bool)} {g o : Nat} {c c' : Array Value} {t' : TypeId} (hw : Region.wanted ⟨some d, .load t x, ty, ps, af, gd⟩ (yielded ops a.tmps) = true) (hx : a.eval x = .pointer (some ⟨g, o, none⟩)) (hp : Has L g c t') (hq : Part P t c o c')
    (h : wpList P ops Q rest (a.put (some d) (.agg c')) u.w) : wpList P ops Q (⟨some d, .load t x, ty, ps, af, gd⟩ :: rest) a u.w := by
  unfold wpList
  rw [if_pos hw]
  left
  unfold Oper.wp execOp
  simp only [hx, Sem.run_bind, run_loadAt_part u hp hq, Result.andThen_ok, Sem.run_pure]
  exact h
theorem lsg_value {gd : Option (Nat × Bool)} {op : Op} {v : Value} {w : World} {d : Option Tmp} (hw : Region.wanted ⟨d, op, ty, ps, af, gd⟩ (yielded ops a.tmps) = true) (hv : (execOp a.eval ⟨d, op, ty, ps, af, gd⟩).run P w = .ok (.value v) w) (h : wpList P ops Q rest (a.put d v) w) : wpList P ops Q (⟨d, op, ty, ps, af, gd⟩ :: rest) a w := by
  unfold wpList
  rw [if_pos hw]
  left
  unfold Oper.wp
  rw [hv]
  exact h
theorem ls_store {g o : Nat} {c c' c'' : Array Value} {t' : TypeId} (hx : a.eval x = .pointer (some ⟨g, o, none⟩)) (hy : a.eval y = .agg c') (hp : Has L g c t') (hq : PutP P t c o c' c'') (hL : PutAll L g c'' c L')
    (h : ∀ u' : KW W L', wpList P ops Q rest a u'.w) : wpList P ops Q (⟨none, .store t x y, ty, ps, af, none⟩ :: rest) a u.w := by
  obtain ⟨u', hu'⟩ := ex_part u hp hq hL
  refine wpList_plain rfl fun K hK => ?_
  unfold Oper.wp execOp
  simp only [hx, hy, Instr.storeAt, Instr.sureAddr, Sem.run_bind, Sem.run_pure, Result.andThen_ok, hu']
  exact hK _ _ (h u')
theorem ls_put {g o : Nat} {c c' : Array Value} {t' : TypeId} {v : Value} (hx : a.eval x = .pointer (some ⟨g, o, none⟩)) (hy : a.eval y = v) (hp : Has L g c t') (hq : PutV P t c o v c') (hL : PutAll L g c' c L')
    (h : ∀ u' : KW W L', wpList P ops Q rest a u'.w) : wpList P ops Q (⟨none, .store t x y, ty, ps, af, none⟩ :: rest) a u.w := by
  obtain ⟨u', hu'⟩ := ex_put u hp hq hL
  refine wpList_plain rfl fun K hK => ?_
  unfold Oper.wp execOp
  simp only [hx, hy, Instr.storeAt, Instr.sureAddr, Sem.run_bind, Sem.run_pure, Result.andThen_ok, hu']
  exact hK _ _ (h u')
/-! in regions that draw their order -/
theorem hd_load {g o : Nat} {c c' : Array Value} {t' : TypeId} (hx : a.eval x = .pointer (some ⟨g, o, none⟩)) (hp : Has Lc g c t') (hq : Part P t c o c')
    (h : headS P W Lc T rest (a.put (some d) (.agg c'))) : headS P W Lc T (⟨some d, .load t x, ty, ps, af, none⟩ :: rest) a := by
  refine ⟨rfl, .agg c', fun L hL u => ?_, h⟩
  have hp' : Has L g c t' := ⟨hL.out.subset hp.out⟩
  unfold execOp
  simp only [hx, Sem.run_bind, run_loadAt_part u hp' hq, Result.andThen_ok, Sem.run_pure]
  exact ⟨L, hL, ⟨u, rfl⟩, rfl, rfl⟩
theorem tl_store {g o : Nat} {c c' c'' : Array Value} {t' : TypeId} (hx : a.eval x = .pointer (some ⟨g, o, none⟩)) (hy : a.eval y = .agg c') (hp : Has L g c t') (hq : PutP P t c o c' c'') (hL : PutAll L g c'' c L') (hs : Sub Lc L')
    (h : tailS P Q W Lc rest a L') : tailS P Q W Lc (⟨none, .store t x y, ty, ps, af, none⟩ :: rest) a L := by
  refine ⟨rfl, fun u => ?_⟩
  obtain ⟨u', hu'⟩ := ex_part u hp hq hL
  unfold execOp
  simp only [hx, hy, Instr.storeAt, Instr.sureAddr, Sem.run_bind, Sem.run_pure, Result.andThen_ok, hu']
  exact ⟨L', hs, ⟨u', rfl⟩, h⟩
theorem tl_alloc {c : Array Value} (hz : ZeroC P t c) (hs : Sub Lc L) (h : ∀ g, tailS P Q W Lc rest (a.put (some d) (.pointer (some ⟨g, 0, none⟩))) (⟨g, c, t⟩ :: L)) : tailS P Q W Lc (⟨some d, .alloc t, ty, ps, af, none⟩ :: rest) a L := tailS_alloc hz.out hs h
/-! in a region whose head is quiet (region, region_tail), guards and all -/
section
variable {o : Oper} {TQ : Act → Prop} {C : World → Prop} {gd : Option (Nat × Bool)} {dq : Option Tmp} {op : Op}
theorem qt_some {v : Value} (hw : Region.wanted o (yielded ops a.tmps) = true) (hv : ∀ w, C w → o.quietAt P a C w v) (h : wpQuiet P ops C TQ rest (a.put o.dst v)) : wpQuiet P ops C TQ (o :: rest) a := by
  unfold wpQuiet
  rw [if_pos hw]
  exact ⟨v, hv, h⟩
theorem qt_skip (hw : Region.wanted o (yielded ops a.tmps) = false) (h : wpQuiet P ops C TQ rest (a.put o.dst undef)) : wpQuiet P ops C TQ (o :: rest) a := by
  unfold wpQuiet
  rw [if_neg (by rw [hw]; decide)]
  exact h
theorem qt_value {v : Value} (hw : Region.wanted ⟨dq, op, ty, ps, af, gd⟩ (yielded ops a.tmps) = true) (hv : ∀ w, (execOp a.eval ⟨dq, op, ty, ps, af, gd⟩).run P w = .ok (.value v) w) (h : wpQuiet P ops C TQ rest (a.put dq v)) : wpQuiet P ops C TQ (⟨dq, op, ty, ps, af, gd⟩ :: rest) a :=
  qt_some hw (fun w hw => by unfold Oper.quietAt; rw [hv]; exact ⟨rfl, rfl⟩) h
theorem qt_load {g o : Nat} {c c' : Array Value} {t' : TypeId} (hw : Region.wanted ⟨some d, .load t x, ty, ps, af, gd⟩ (yielded ops a.tmps) = true) (hx : a.eval x = .pointer (some ⟨g, o, none⟩)) (hp : Has L g c t') (hq : Part P t c o c')
    (h : wpQuiet P ops (fun w' => ∃ u : KW W L, w' = u.w) TQ rest (a.put (some d) (.agg c'))) : wpQuiet P ops (fun w' => ∃ u : KW W L, w' = u.w) TQ (⟨some d, .load t x, ty, ps, af, gd⟩ :: rest) a :=
  qt_some hw (by
    rintro w ⟨u, rfl⟩
    unfold Oper.quietAt execOp
    simp only [hx, Sem.run_bind, run_loadAt_part u hp hq, Result.andThen_ok, Sem.run_pure]
    exact ⟨rfl, rfl⟩) h
theorem qt_call {f : FuncId} {args : Array Value} {v : Value} (hw : Region.wanted ⟨dq, op, ty, ps, af, gd⟩ (yielded ops a.tmps) = true) (he : ∀ w, (execOp a.eval ⟨dq, op, ty, ps, af, gd⟩).run P w = .ok (.enter f args) w) (hc : ∀ u : KW W L, Calls P f args u.w (Ret v u.w))
    (h : wpQuiet P ops (fun w' => ∃ u : KW W L, w' = u.w) TQ rest (a.put dq v)) : wpQuiet P ops (fun w' => ∃ u : KW W L, w' = u.w) TQ (⟨dq, op, ty, ps, af, gd⟩ :: rest) a :=
  qt_some hw (by
    rintro w ⟨u, rfl⟩
    unfold Oper.quietAt
    rw [he]
    exact ⟨rfl, (hc u).mono fun e w' ⟨h1, h2⟩ => ⟨h1, u.go h2⟩⟩) h
end
section
variable {S : World → Prop} {w : World} {mr : List (Bool × Oper)}
/-- one that a guard leaves out -/
theorem mixg_skip {gd : Option (Nat × Bool)} {op : Op} {d : Option Tmp} (hw : Region.wanted ⟨d, op, ty, ps, af, gd⟩ (yielded ops a.tmps) = false) (h : mixT P ops S Q mr (a.put d undef) w) : mixT P ops S Q ((true, ⟨d, op, ty, ps, af, gd⟩) :: mr) a w :=
  ⟨undef, Or.inr ⟨hw, rfl⟩, h⟩
theorem mixg_part {gd : Option (Nat × Bool)} {g o : Nat} {c c' : Array Value} {t' : TypeId} (hw : Region.wanted ⟨some d, .load t x, ty, ps, af, gd⟩ (yielded ops a.tmps) = true) (hx : a.eval x = .pointer (some ⟨g, o, none⟩)) (hp : Has Lc g c t') (hq : Part P t c o c')
    (h : mixT P ops (Known W Lc) Q mr (a.put (some d) (.agg c')) w) : mixT P ops (Known W Lc) Q ((true, ⟨some d, .load t x, ty, ps, af, gd⟩) :: mr) a w := by
  refine ⟨.agg c', Or.inl ⟨hw, ?_⟩, h⟩
  rintro w ⟨u, rfl⟩
  unfold execOp
  simp only [hx, Sem.run_bind, run_loadAt_part u hp hq, Result.andThen_ok, Sem.run_pure]
theorem mixg_store {gd : Option (Nat × Bool)} {g o : Nat} {c c' c'' : Array Value} {t' : TypeId} (hw : Region.wanted ⟨none, .store t x y, ty, ps, af, gd⟩ (yielded ops a.tmps) = true) (hx : a.eval x = .pointer (some ⟨g, o, none⟩)) (hy : a.eval y = .agg c') (hp : Has L g c t') (hq : PutP P t c o c' c'') (hL : PutAll L g c'' c L') (hs : Sub Lc L')
    (h : ∀ u' : KW W L', mixT P ops (Known W Lc) Q mr a u'.w) : mixT P ops (Known W Lc) Q ((false, ⟨none, .store t x y, ty, ps, af, gd⟩) :: mr) a u.w := by
  refine ⟨hw, ?_⟩
  obtain ⟨u', hu'⟩ := ex_part u hp hq hL
  unfold Oper.wp execOp
  simp only [hx, hy, Instr.storeAt, Instr.sureAddr, Sem.run_bind, Sem.run_pure, Result.andThen_ok, hu']
  exact ⟨KW.weak (h := hs) u', h u'⟩
theorem mixg_then {gd : Option (Nat × Bool)} {op : Op} {d : Option Tmp} {v : Value} (hw : Region.wanted ⟨d, op, ty, ps, af, gd⟩ (yielded ops a.tmps) = true) (hv : (execOp a.eval ⟨d, op, ty, ps, af, gd⟩).run P w = .ok (.value v) w) (hS : S w) (h : mixT P ops S Q mr (a.put d v) w) : mixT P ops S Q ((false, ⟨d, op, ty, ps, af, gd⟩) :: mr) a w :=
  ⟨hw, by unfold Oper.wp; rw [hv]; exact ⟨hS, h⟩⟩
end
end
/-! ### two allocs that may come in either order -/
section
variable {P : Program} {ops : Array Oper} {md : Region.Mode} {Q : Exit → Act → World → Prop} {W : World} {Lc : List Ent}
theorem KW.perm {W : World} {L L' : List Ent} (h : L.Perm L') (u : KW W L) : ∃ u' : KW W L', u.w = u'.w :=
  ⟨⟨u.w, u.below, fun e he => u.mem e (h.mem_iff.2 he), (h.map Ent.g).nodup_iff.1 u.nodup⟩, rfl⟩
theorem StepE.perm {m : Sem Next} {L L' : List Ent} {K : Value → List Ent → Prop} (h : L'.Perm L) (hs : StepE P W Lc m L K) : StepE P W Lc m L' K := fun u => by
  obtain ⟨u', hu'⟩ := u.perm h
  rw [hu']
  exact hs u'
theorem anyS_perm {f : Nat} {ls : Array Bool} {a : Act} {L L' : List Ent} (h : L'.Perm L) (hs : anyS P md ops Q W Lc f ls a L) : anyS P md ops Q W Lc f ls a L' := by
  have hw : (∀ u : KW W L, Q .normal a u.w) → ∀ u : KW W L', Q .normal a u.w := fun h1 u => by
    obtain ⟨u', hu'⟩ := u.perm h
    rw [hu']
    exact h1 u'
  cases f with
  | zero => exact ⟨hs.1, hw hs.2⟩
  | succ f =>
    refine ⟨fun h0 => hw (hs.1 h0), fun i hi => ?_⟩
    obtain ⟨o, ho, hg, hst⟩ := hs.2 i hi
    exact ⟨o, ho, hg, hst.perm h⟩
theorem stepE_alloc {a : Act} {L : List Ent} {d : Option Tmp} {t ty : TypeId} {ps : String} {af : Array Edge} {gd : Option (Nat × Bool)} {c : Array Value} {K : Value → List Ent → Prop} (hz : ZeroC P t c) (hs : Sub Lc L) (h : ∀ g, K (.pointer (some ⟨g, 0, none⟩)) (⟨g, c, t⟩ :: L)) :
    StepE P W Lc (execOp a.eval ⟨d, .alloc t, ty, ps, af, gd⟩) L K := fun u => by
  obtain ⟨i, hi, hz'⟩ := Option.map_eq_some_iff.1 hz.out
  obtain ⟨v, hv, rfl⟩ := Option.map_eq_some_iff.1 hz'
  have hr : (Instr.alloc t true (.tuple #[])).run P u.w = .ok (.pointer (some ⟨u.w.heap.size, 0, none⟩)) (u.alloc v.cells t).w := by
    simp [Instr.alloc, zeroValue, typeInfo, hi, hv, newVar, newRow, KW.alloc, go_sem]
  unfold execOp
  simp only [Sem.run_bind, hr, Result.andThen_ok, Sem.run_pure]
  exact ⟨_, Sub.skip (h := hs), ⟨u.alloc v.cells t, rfl⟩, h _⟩
def twoB (md : Region.Mode) (ops : Array Oper) (i j : Nat) (ls : Array Bool) : Bool :=
  decide (Region.ready md ops ls = [i, j]) && decide (Region.ready md ops (ls.setIfInBounds i true) = [j]) && decide (Region.ready md ops (ls.setIfInBounds j true) = [i])
theorem any_allocs {i j d e : Nat} {t t' ty ty' : TypeId} {ps ps' : String} {af af' : Array Edge} {f : Nat} {ls : Array Bool} {a : Act} {L : List Ent} {c c' : Array Value}
    (hi : ops[i]? = some ⟨some d, .alloc t, ty, ps, af, none⟩) (hj : ops[j]? = some ⟨some e, .alloc t', ty', ps', af', none⟩) (hde : d ≠ e) (hij : i ≠ j) (hB : twoB md ops i j ls = true) (hs : Sub Lc L) (hz : ZeroC P t c) (hz' : ZeroC P t' c')
    (h : ∀ g g', anyS P md ops Q W Lc f ((ls.setIfInBounds i true).setIfInBounds j true) ((a.put (some d) (.pointer (some ⟨g, 0, none⟩))).put (some e) (.pointer (some ⟨g', 0, none⟩))) (⟨g', c', t'⟩ :: ⟨g, c, t⟩ :: L)) :
    anyS P md ops Q W Lc (f + 2) ls a L := by
  simp only [twoB, Bool.and_eq_true, decide_eq_true_eq] at hB
  refine ⟨fun h0 => (by rw [hB.1.1] at h0; cases h0), fun k hk => ?_⟩
  rw [hB.1.1] at hk
  rcases List.mem_cons.1 hk with rfl | hk
  · refine ⟨_, hi, rfl, stepE_alloc hz hs fun g => ⟨fun h0 => (by rw [hB.1.2] at h0; cases h0), fun k' hk' => ?_⟩⟩
    rw [hB.1.2] at hk'
    obtain rfl : k' = j := by simpa using hk'
    exact ⟨_, hj, rfl, stepE_alloc hz' (Sub.skip (h := hs)) fun g' => h g g'⟩
  · obtain rfl : k = j := by simpa using hk
    refine ⟨_, hj, rfl, stepE_alloc hz' hs fun g' => ⟨fun h0 => (by rw [hB.2] at h0; cases h0), fun k' hk' => ?_⟩⟩
    rw [hB.2] at hk'
    obtain rfl : k' = i := by simpa using hk'
    refine ⟨_, hi, rfl, stepE_alloc hz (Sub.skip (h := hs)) fun g => ?_⟩
    have H := anyS_perm (List.Perm.swap ⟨g', c', t'⟩ ⟨g, c, t⟩ L) (h g g')
    rw [Array.setIfInBounds_comm true true hij, Act.put_comm a (x := some d) (y := some e) _ _ (fun z h1 h2 => hde ((Option.some.inj h1).trans (Option.some.inj h2).symm))] at H
    exact H
/-- allocs that may come in any order: number, slot, the cells and the type of what is made -/
structure AI where
  k : Nat
  d : Nat
  c : Array Value
  t : TypeId
def lsA (is : List AI) (ls : Array Bool) : Array Bool := is.foldl (fun ls x => ls.setIfInBounds x.k true) ls
def actA (gs : Nat → Nat) (is : List AI) (a : Act) : Act := is.foldl (fun a x => a.put (some x.d) (.pointer (some ⟨gs x.k, 0, none⟩))) a
def entA (gs : Nat → Nat) (is : List AI) (L : List Ent) : List Ent := is.foldl (fun L x => ⟨gs x.k, x.c, x.t⟩ :: L) L
theorem lsA_mid (x : AI) (B : List AI) : ∀ (A : List AI) (ls : Array Bool), (∀ y ∈ A, y.k ≠ x.k ∧ y.d ≠ x.d) → lsA (A ++ x :: B) ls = lsA (A ++ B) (ls.setIfInBounds x.k true)
  | [], _, _ => rfl
  | y :: A, ls, h => by
    show lsA (A ++ x :: B) (ls.setIfInBounds y.k true) = lsA (A ++ B) ((ls.setIfInBounds x.k true).setIfInBounds y.k true)
    rw [lsA_mid x B A _ fun z hz => h z (List.mem_cons_of_mem _ hz), Array.setIfInBounds_comm true true (h y (by simp)).1]
theorem actA_mid (gs : Nat → Nat) (x : AI) (B : List AI) : ∀ (A : List AI) (a : Act), (∀ y ∈ A, y.k ≠ x.k ∧ y.d ≠ x.d) → actA gs (A ++ x :: B) a = actA gs (A ++ B) (a.put (some x.d) (.pointer (some ⟨gs x.k, 0, none⟩)))
  | [], _, _ => rfl
  | y :: A, a, h => by
    show actA gs (A ++ x :: B) (a.put (some y.d) _) = actA gs (A ++ B) ((a.put (some x.d) _).put (some y.d) _)
    rw [actA_mid gs x B A _ fun z hz => h z (List.mem_cons_of_mem _ hz), Act.put_comm a (x := some y.d) (y := some x.d) _ _ (fun z h1 h2 => (h y (by simp)).2 ((Option.some.inj h1).trans (Option.some.inj h2).symm))]
theorem entA_perm (gs : Nat → Nat) : ∀ (is : List AI) {L L' : List Ent}, L.Perm L' → (entA gs is L).Perm (entA gs is L')
  | [], _, _, h => h
  | _ :: is, _, _, h => entA_perm gs is (h.cons _)
theorem entA_mid (gs : Nat → Nat) (x : AI) (B : List AI) : ∀ (A : List AI) (L : List Ent), (entA gs (A ++ x :: B) L).Perm (entA gs (A ++ B) (⟨gs x.k, x.c, x.t⟩ :: L))
  | [], _ => .refl _
  | y :: A, L => (entA_mid gs x B A (⟨gs y.k, y.c, y.t⟩ :: L)).trans (entA_perm gs (A ++ B) (.swap _ _ _))
theorem actA_congr {gs gs' : Nat → Nat} : ∀ (is : List AI) (a : Act), (∀ y ∈ is, gs y.k = gs' y.k) → actA gs is a = actA gs' is a
  | [], _, _ => rfl
  | y :: is, a, h => by
    show actA gs is (a.put (some y.d) (.pointer (some ⟨gs y.k, 0, none⟩))) = actA gs' is (a.put (some y.d) (.pointer (some ⟨gs' y.k, 0, none⟩)))
    rw [h y (by simp), actA_congr is _ fun z hz => h z (List.mem_cons_of_mem _ hz)]
theorem entA_congr {gs gs' : Nat → Nat} : ∀ (is : List AI) (L : List Ent), (∀ y ∈ is, gs y.k = gs' y.k) → entA gs is L = entA gs' is L
  | [], _, _ => rfl
  | y :: is, L, h => by
    show entA gs is (⟨gs y.k, y.c, y.t⟩ :: L) = entA gs' is (⟨gs' y.k, y.c, y.t⟩ :: L)
    rw [h y (by simp), entA_congr is _ fun z hz => h z (List.mem_cons_of_mem _ hz)]
def manyB (md : Region.Mode) (ops : Array Oper) : Nat → List Nat → Array Bool → Bool
  | 0, ks, _ => ks.isEmpty
  | n + 1, ks, ls => !(Region.ready md ops ls).isEmpty && (Region.ready md ops ls).all fun k => ks.contains k && manyB md ops n (ks.erase k) (ls.setIfInBounds k true)
theorem any_many {f : Nat} : ∀ (n : Nat) (is : List AI) (ls : Array Bool) (a : Act) (L : List Ent), is.length = n → is.Pairwise (fun x y => x.k ≠ y.k ∧ x.d ≠ y.d) →
    (∀ x ∈ is, ∃ ty ps af, ops[x.k]? = some ⟨some x.d, .alloc x.t, ty, ps, af, none⟩) → (∀ x ∈ is, ZeroC P x.t x.c) → manyB md ops n (is.map (·.k)) ls = true → Sub Lc L →
    (∀ gs : Nat → Nat, anyS P md ops Q W Lc f (lsA is ls) (actA gs is a) (entA gs is L)) → anyS P md ops Q W Lc (f + n) ls a L
  | 0, is, ls, a, L, hn, _, _, _, _, _, h => by
    obtain rfl := List.length_eq_zero_iff.1 hn
    exact h fun _ => 0
  | n + 1, is, ls, a, L, hn, hp, ho, hz, hB, hs, h => by
    simp only [manyB, Bool.and_eq_true, Bool.not_eq_true', List.all_eq_true] at hB
    refine ⟨fun h0 => (by have := hB.1; rw [h0] at this; cases this), fun k hk => ?_⟩
    obtain ⟨hc, hB'⟩ := hB.2 k hk
    obtain ⟨x, hx, rfl⟩ := List.mem_map.1 (List.contains_iff_mem.1 hc)
    obtain ⟨A, B, rfl⟩ := List.append_of_mem hx
    obtain ⟨ty, ps, af, hox⟩ := ho x hx
    have hpA := List.pairwise_append.1 hp
    have hA : ∀ y ∈ A, y.k ≠ x.k ∧ y.d ≠ x.d := fun y hy => hpA.2.2 y hy x (by simp)
    have hBx : ∀ y ∈ B, y.k ≠ x.k := fun y hy => ((List.pairwise_cons.1 hpA.2.1).1 y hy).1.symm
    refine ⟨_, hox, rfl, stepE_alloc (hz x hx) hs fun g => ?_⟩
    have sub : (A ++ B).Sublist (A ++ x :: B) := List.Sublist.append_left (List.sublist_cons_self x B) A
    have hmem : ∀ y ∈ A ++ B, y ∈ A ++ x :: B := fun y hy => sub.subset hy
    have hne : ∀ y ∈ A ++ B, y.k ≠ x.k := fun y hy => (List.mem_append.1 hy).elim (fun h => (hA y h).1) (hBx y)
    have he : ((A ++ x :: B).map (·.k)).erase x.k = (A ++ B).map (·.k) := by
      rw [List.map_append, List.map_cons, List.erase_append_right _ (fun hm => by obtain ⟨y, hy, e⟩ := List.mem_map.1 hm; exact (hA y hy).1 e), List.erase_cons_head, List.map_append]
    rw [he] at hB'
    refine any_many n (A ++ B) _ _ _ (by simp at hn ⊢; omega) (hp.sublist sub) (fun y hy => ho y (hmem y hy)) (fun y hy => hz y (hmem y hy)) hB' (Sub.skip (h := hs)) fun gs' => ?_
    have H := h fun j => if j = x.k then g else gs' j
    have hg : ∀ y ∈ A ++ B, (fun j => if j = x.k then g else gs' j) y.k = gs' y.k := fun y hy => if_neg (hne y hy)
    rw [lsA_mid x B A ls hA, actA_mid _ x B A a hA, actA_congr (A ++ B) _ hg] at H
    have H2 := anyS_perm (entA_mid (fun j => if j = x.k then g else gs' j) x B A L).symm H
    rw [entA_congr (A ++ B) _ hg] at H2
    simpa using H2
end
/-! ### a region in any mixture, told with what is known: take k: number k is taken first (it answers the same wherever Lc's blocks are known); sole k: it is the only one that may come; two i j: allocs that may come in either order -/
inductive Mv where
  | take (k : Nat)
  | sole (k : Nat)
  | two (i j : Nat)
  | many (ks : List Nat)
inductive St where
  | take (o : Oper)
  | sole (o : Oper)
  | two (o o' : Oper)
  | many (os : List (Nat × Oper))
def Mv.cost : Mv → Nat
  | .two _ _ => 2
  | .many ks => ks.length
  | _ => 1
def costs (ms : List Mv) : Nat := (ms.map Mv.cost).sum
def Mv.pick (l : List Oper) : Mv → Option St
  | .take k => (l[k]?).map .take
  | .sole k => (l[k]?).map .sole
  | .two i j => match l[i]?, l[j]? with
    | some o, some o' => some (.two o o')
    | _, _ => none
  | .many ks => some (.many (ks.filterMap fun k => (l[k]?).map fun o => (k, o)))
def picksM (l : List Oper) (ms : List Mv) : List St := ms.filterMap (Mv.pick l)
def allocDst : Oper → Option Nat
  | ⟨some d, .alloc _, _, _, _, none⟩ => some d
  | _ => none
section
variable {P : Program} {ops : Array Oper} {md : Region.Mode} {Q : Exit → Act → World → Prop} {W : World} {Lc : List Ent}
/-- the operations are the allocs told -/
def AOps (P : Program) : List (Nat × Oper) → List AI → Prop
  | [], [] => True
  | (k, o) :: os, x :: is => (k = x.k ∧ (∃ ty ps af, o = ⟨some x.d, .alloc x.t, ty, ps, af, none⟩) ∧ ZeroC P x.t x.c) ∧ AOps P os is
  | _, _ => False
theorem aops {l : List Oper} : ∀ (ks : List Nat) (is : List AI), (∀ k ∈ ks, (l[k]?).isSome = true) → AOps P (ks.filterMap fun k => (l[k]?).map fun o => (k, o)) is →
    is.map (·.k) = ks ∧ (∀ x ∈ is, ∃ ty ps af, l[x.k]? = some ⟨some x.d, .alloc x.t, ty, ps, af, none⟩) ∧ ∀ x ∈ is, ZeroC P x.t x.c
  | [], [], _, _ => ⟨rfl, fun _ h => absurd h (by simp), fun _ h => absurd h (by simp)⟩
  | [], _ :: _, _, h => by simp [AOps] at h
  | k :: ks, is, hk, h => by
    obtain ⟨o, ho⟩ := Option.isSome_iff_exists.1 (hk k (by simp))
    simp only [List.filterMap_cons, ho, Option.map_some] at h
    cases is with
    | nil => exact h.elim
    | cons x is =>
      obtain ⟨⟨rfl, ⟨ty, ps, af, rfl⟩, hz⟩, hr⟩ := h
      obtain ⟨h1, h2, h3⟩ := aops ks is (fun j hj => hk j (List.mem_cons_of_mem _ hj)) hr
      refine ⟨by rw [List.map_cons, h1], fun y hy => ?_, fun y hy => ?_⟩
      · rcases List.mem_cons.1 hy with rfl | hy
        · exact ⟨ty, ps, af, ho⟩
        · exact h2 y hy
      · rcases List.mem_cons.1 hy with rfl | hy
        · exact hz
        · exact h3 y hy
def movesB (md : Region.Mode) (ops : Array Oper) : List Mv → Array Bool → Bool
  | [], ls => (Region.ready md ops ls).isEmpty
  | .take k :: r, ls => (Region.ready md ops ls).contains k && Region.free md ops ls k && (ops[k]?).isSome && movesB md ops r (ls.setIfInBounds k true)
  | .sole k :: r, ls => decide (Region.ready md ops ls = [k]) && (ops[k]?).isSome && movesB md ops r (ls.setIfInBounds k true)
  | .two i j :: r, ls => twoB md ops i j ls && decide (i ≠ j) && (ops[i]?).isSome && (ops[j]?).isSome && movesB md ops r ((ls.setIfInBounds i true).setIfInBounds j true)
  | .many ks :: r, ls => manyB md ops ks.length ks ls && ks.all (fun k => (ops[k]?).isSome) && movesB md ops r (ks.foldl (fun ls k => ls.setIfInBounds k true) ls)
def mixS (P : Program) (Q : Exit → Act → World → Prop) (W : World) (Lc : List Ent) : List St → Act → List Ent → Prop
  | [], a, L => ∀ u : KW W L, Q .normal a u.w
  | .take o :: r, a, L => o.guard = none ∧ ∃ v, Says P W Lc (execOp a.eval o) v ∧ mixS P Q W Lc r (a.put o.dst v) L
  | .sole o :: r, a, L => o.guard = none ∧ StepE P W Lc (execOp a.eval o) L fun v L' => mixS P Q W Lc r (a.put o.dst v) L'
  | .two o o' :: r, a, L => ∃ d t ty ps af e t' ty' ps' af' c c', o = ⟨some d, .alloc t, ty, ps, af, none⟩ ∧ o' = ⟨some e, .alloc t', ty', ps', af', none⟩ ∧ d ≠ e ∧ ZeroC P t c ∧ ZeroC P t' c' ∧
      ∀ g g', mixS P Q W Lc r ((a.put (some d) (.pointer (some ⟨g, 0, none⟩))).put (some e) (.pointer (some ⟨g', 0, none⟩))) (⟨g', c', t'⟩ :: ⟨g, c, t⟩ :: L)
  | .many os :: r, a, L => ∃ is : List AI, is.Pairwise (fun x y => x.k ≠ y.k ∧ x.d ≠ y.d) ∧ AOps P os is ∧ ∀ gs : Nat → Nat, mixS P Q W Lc r (actA gs is a) (entA gs is L)
theorem ent_sub (gs : Nat → Nat) : ∀ (is : List AI) {L : List Ent}, Sub Lc L → Sub Lc (entA gs is L)
  | [], _, h => h
  | _ :: is, _, h => ent_sub gs is (Sub.skip (h := h))
theorem any_mix {l : List Oper} (hl : ops = l.toArray) (hsel : Region.noSelect ops = true) : ∀ (ms : List Mv) (ls : Array Bool) (a : Act) (L : List Ent), movesB md ops ms ls = true → Sub Lc L → mixS P Q W Lc (picksM l ms) a L → anyS P md ops Q W Lc (costs ms) ls a L
  | [], ls, a, L, hB, _, h => ⟨by simpa [movesB] using hB, h⟩
  | .take k :: ms, ls, a, L, hB, hs, h => by
    simp only [movesB, Bool.and_eq_true] at hB
    obtain ⟨o, h0⟩ := Option.isSome_iff_exists.1 hB.1.2
    have h0' : l[k]? = some o := by rw [hl] at h0; simpa using h0
    simp only [picksM, List.filterMap_cons, Mv.pick, h0', Option.map_some] at h
    obtain ⟨hg, v, hy, hR⟩ := h
    have A := any_first h0 hg (Region.noSelect_spec hsel) _ ls a L (Region.free_spec h0 hB.1.1.2) (by simpa using hB.1.1.1) hy hs (any_mix hl hsel ms _ _ L hB.2 hs hR)
    rwa [show costs (.take k :: ms) = costs ms + 1 by simp [costs, Mv.cost]; omega]
  | .sole k :: ms, ls, a, L, hB, hs, h => by
    simp only [movesB, Bool.and_eq_true, decide_eq_true_eq] at hB
    obtain ⟨o, h0⟩ := Option.isSome_iff_exists.1 hB.1.2
    have h0' : l[k]? = some o := by rw [hl] at h0; simpa using h0
    simp only [picksM, List.filterMap_cons, Mv.pick, h0', Option.map_some] at h
    rw [show costs (.sole k :: ms) = costs ms + 1 by simp [costs, Mv.cost]; omega]
    refine ⟨fun h1 => (by rw [hB.1.1] at h1; cases h1), fun i hi => ?_⟩
    rw [hB.1.1] at hi
    have hik : i = k := by simpa using hi
    subst hik
    refine ⟨o, h0, h.1, fun u => ?_⟩
    have hE := h.2 u
    have key : ∀ v L', Sub Lc L' → mixS P Q W Lc (picksM l ms) (a.put o.dst v) L' → anyS P md ops Q W Lc (costs ms) (ls.setIfInBounds i true) (a.put o.dst v) L' := fun v L' hs' h' => any_mix hl hsel ms _ _ L' hB.2 hs' h'
    revert hE
    generalize (execOp a.eval o).run P u.w = r
    intro hE
    cases r with
    | ok n w =>
      cases n with
      | value v' => obtain ⟨L', e1, e2, e3⟩ := hE; exact ⟨L', e1, e2, key _ _ e1 e3⟩
      | skip => obtain ⟨L', e1, e2, e3⟩ := hE; exact ⟨L', e1, e2, key _ _ e1 e3⟩
      | enter fn args => exact Calls.mono hE fun e w' ⟨v', L', e0, e1, e2, e3⟩ => ⟨v', L', e0, e1, e2, key _ _ e1 e3⟩
      | _ => exact hE.elim
    | _ => exact hE.elim
  | .two i j :: ms, ls, a, L, hB, hs, h => by
    simp only [movesB, Bool.and_eq_true, decide_eq_true_eq] at hB
    obtain ⟨o, h0⟩ := Option.isSome_iff_exists.1 hB.1.1.2
    obtain ⟨o', h1⟩ := Option.isSome_iff_exists.1 hB.1.2
    have h0' : l[i]? = some o := by rw [hl] at h0; simpa using h0
    have h1' : l[j]? = some o' := by rw [hl] at h1; simpa using h1
    simp only [picksM, List.filterMap_cons, Mv.pick, h0', h1'] at h
    obtain ⟨d, t, ty, ps, af, e, t', ty', ps', af', c, c', rfl, rfl, hde, hz, hz', hR⟩ := h
    rw [show costs (.two i j :: ms) = costs ms + 2 by simp [costs, Mv.cost]; omega]
    exact any_allocs h0 h1 hde hB.1.1.1.2 hB.1.1.1.1 hs hz hz' fun g g' => any_mix hl hsel ms _ _ _ hB.2 (Sub.skip (h := Sub.skip (h := hs))) (hR g g')
  | .many ks :: ms, ls, a, L, hB, hs, h => by
    simp only [movesB, Bool.and_eq_true, List.all_eq_true] at hB
    simp only [picksM, List.filterMap_cons, Mv.pick] at h
    obtain ⟨is, hp, ha, hR⟩ := h
    obtain ⟨hk, ho, hz⟩ := aops ks is (fun k hk => by have h0 := hB.1.2 k hk; rw [hl] at h0; simpa using h0) ha
    have hlen : is.length = ks.length := by rw [← hk, List.length_map]
    have hls : lsA is ls = ks.foldl (fun ls k => ls.setIfInBounds k true) ls := by rw [← hk, List.foldl_map]; rfl
    rw [show costs (.many ks :: ms) = costs ms + is.length by simp [costs, Mv.cost, hlen]; omega]
    refine any_many is.length is ls a L rfl hp (fun x hx => by rw [hl]; simpa using ho x hx) hz (by rw [hlen, hk]; exact hB.1.1) hs fun gs => ?_
    rw [hls]
    exact any_mix hl hsel ms _ _ _ hB.2 (ent_sub gs is hs) (hR gs)
theorem region_mixS {id : Nat} {l : List Oper} {a : Act} {L : List Ent} {u : KW W L} (ms : List Mv) (Lc : List Ent) (hs : Sub Lc L) (hm : P.follows .mixedOrders = true) (hB : (Region.noSelect l.toArray && decide (costs ms = l.length) && movesB .any l.toArray ms (Array.replicate l.length false)) = true)
    (h : mixS P Q W Lc (picksM l ms) a L) : (Code.region id l.toArray true).wp P Q a u.w := by
  simp only [Bool.and_eq_true, decide_eq_true_eq] at hB
  refine wp_region_any hm ?_
  have A := any_mix (md := .any) (Q := Q) rfl hB.1.1 ms _ a L hB.2 hs h
  rw [hB.1.2] at A
  have e : l.toArray.size = l.length := by simp
  rw [e]
  exact any_sound _ _ _ L u.drew A
end
section
variable {P : Program} {Q : Exit → Act → World → Prop} {r : List St} {a : Act} {W : World} {L L' Lc : List Ent} {d : Tmp} {t ty : TypeId} {ps : String} {af : Array Edge} {x y : Operand}
theorem sm_nil (h : ∀ u : KW W L, Q .normal a u.w) : mixS P Q W Lc [] a L := h
theorem sm_value {op : Op} {d : Option Tmp} {v : Value} (hv : ∀ w, (execOp a.eval ⟨d, op, ty, ps, af, none⟩).run P w = .ok (.value v) w) (h : mixS P Q W Lc r (a.put d v) L) : mixS P Q W Lc (.take ⟨d, op, ty, ps, af, none⟩ :: r) a L :=
  ⟨rfl, v, fun L hL u => by rw [hv]; exact ⟨L, hL, ⟨u, rfl⟩, rfl, rfl⟩, h⟩
theorem sm_load {g o : Nat} {c c' : Array Value} {t' : TypeId} (hx : a.eval x = .pointer (some ⟨g, o, none⟩)) (hp : Has Lc g c t') (hq : Part P t c o c') (h : mixS P Q W Lc r (a.put (some d) (.agg c')) L) : mixS P Q W Lc (.take ⟨some d, .load t x, ty, ps, af, none⟩ :: r) a L := by
  refine ⟨rfl, .agg c', fun L hL u => ?_, h⟩
  have hp' : Has L g c t' := ⟨hL.out.subset hp.out⟩
  unfold execOp
  simp only [hx, Sem.run_bind, run_loadAt_part u hp' hq, Result.andThen_ok, Sem.run_pure]
  exact ⟨L, hL, ⟨u, rfl⟩, rfl, rfl⟩
theorem sm_call {op : Op} {d : Option Tmp} {f : FuncId} {args : Array Value} {v : Value} (he : ∀ w, (execOp a.eval ⟨d, op, ty, ps, af, none⟩).run P w = .ok (.enter f args) w) (hc : ∀ L, ∀ u : KW W L, Calls P f args u.w (Ret v u.w)) (h : mixS P Q W Lc r (a.put d v) L) : mixS P Q W Lc (.take ⟨d, op, ty, ps, af, none⟩ :: r) a L := by
  refine ⟨rfl, v, fun L hL u => ?_, h⟩
  rw [he]
  refine (hc _ u).mono fun e w' ⟨h1, hb⟩ => ?_
  obtain ⟨u', hu'⟩ := u.go hb
  exact ⟨v, L, h1, hL, ⟨u', hu'⟩, rfl, rfl⟩
theorem so_value {op : Op} {d : Option Tmp} {v : Value} (hs : Sub Lc L) (hv : ∀ w, (execOp a.eval ⟨d, op, ty, ps, af, none⟩).run P w = .ok (.value v) w) (h : mixS P Q W Lc r (a.put d v) L) : mixS P Q W Lc (.sole ⟨d, op, ty, ps, af, none⟩ :: r) a L :=
  ⟨rfl, fun u => by rw [hv]; exact ⟨L, hs, ⟨u, rfl⟩, h⟩⟩
theorem so_load {g o : Nat} {c c' : Array Value} {t' : TypeId} (hs : Sub Lc L) (hx : a.eval x = .pointer (some ⟨g, o, none⟩)) (hp : Has L g c t') (hq : Part P t c o c') (h : mixS P Q W Lc r (a.put (some d) (.agg c')) L) : mixS P Q W Lc (.sole ⟨some d, .load t x, ty, ps, af, none⟩ :: r) a L := by
  refine ⟨rfl, fun u => ?_⟩
  unfold execOp
  simp only [hx, Sem.run_bind, run_loadAt_part u hp hq, Result.andThen_ok, Sem.run_pure]
  exact ⟨L, hs, ⟨u, rfl⟩, h⟩
theorem so_store {g o : Nat} {c c' c'' : Array Value} {t' : TypeId} (hx : a.eval x = .pointer (some ⟨g, o, none⟩)) (hy : a.eval y = .agg c') (hp : Has L g c t') (hq : PutP P t c o c' c'') (hL : PutAll L g c'' c L') (hs : Sub Lc L')
    (h : mixS P Q W Lc r a L') : mixS P Q W Lc (.sole ⟨none, .store t x y, ty, ps, af, none⟩ :: r) a L := by
  refine ⟨rfl, fun u => ?_⟩
  obtain ⟨u', hu'⟩ := ex_part u hp hq hL
  unfold execOp
  simp only [hx, hy, Instr.storeAt, Instr.sureAddr, Sem.run_bind, Sem.run_pure, Result.andThen_ok, hu']
  exact ⟨L', hs, ⟨u', rfl⟩, h⟩
theorem so_alloc {c : Array Value} (hz : ZeroC P t c) (hs : Sub Lc L) (h : ∀ g, mixS P Q W Lc r (a.put (some d) (.pointer (some ⟨g, 0, none⟩))) (⟨g, c, t⟩ :: L)) : mixS P Q W Lc (.sole ⟨some d, .alloc t, ty, ps, af, none⟩ :: r) a L := by
  refine ⟨rfl, fun u => ?_⟩
  obtain ⟨i, hi, hz'⟩ := Option.map_eq_some_iff.1 hz.out
  obtain ⟨v, hv, rfl⟩ := Option.map_eq_some_iff.1 hz'
  have hr : (Instr.alloc t true (.tuple #[])).run P u.w = .ok (.pointer (some ⟨u.w.heap.size, 0, none⟩)) (u.alloc v.cells t).w := by
    simp [Instr.alloc, zeroValue, typeInfo, hi, hv, newVar, newRow, KW.alloc, go_sem]
  unfold execOp
  simp only [Sem.run_bind, hr, Result.andThen_ok, Sem.run_pure]
  exact ⟨_, Sub.skip (h := hs), ⟨u.alloc v.cells t, rfl⟩, h _⟩
theorem so_two {d e : Nat} {t t' ty ty' : TypeId} {ps ps' : String} {af af' : Array Edge} {c c' : Array Value} (hde : d ≠ e) (hz : ZeroC P t c) (hz' : ZeroC P t' c')
    (h : ∀ g g', mixS P Q W Lc r ((a.put (some d) (.pointer (some ⟨g, 0, none⟩))).put (some e) (.pointer (some ⟨g', 0, none⟩))) (⟨g', c', t'⟩ :: ⟨g, c, t⟩ :: L)) : mixS P Q W Lc (.two ⟨some d, .alloc t, ty, ps, af, none⟩ ⟨some e, .alloc t', ty', ps', af', none⟩ :: r) a L :=
  ⟨d, t, ty, ps, af, e, t', ty', ps', af', c, c', rfl, rfl, hde, hz, hz', h⟩
theorem so_three {k1 d1 k2 d2 k3 d3 : Nat} {t1 ty1 t2 ty2 t3 ty3 : TypeId} {ps1 ps2 ps3 : String} {af1 af2 af3 : Array Edge} {c1 c2 c3 : Array Value} (hd : decide (d1 ≠ d2 ∧ d1 ≠ d3 ∧ d2 ≠ d3) = true) (hk : decide (k1 ≠ k2 ∧ k1 ≠ k3 ∧ k2 ≠ k3) = true) (hz1 : ZeroC P t1 c1) (hz2 : ZeroC P t2 c2) (hz3 : ZeroC P t3 c3)
    (h : ∀ g1 g2 g3, mixS P Q W Lc r (((a.put (some d1) (.pointer (some ⟨g1, 0, none⟩))).put (some d2) (.pointer (some ⟨g2, 0, none⟩))).put (some d3) (.pointer (some ⟨g3, 0, none⟩))) (⟨g3, c3, t3⟩ :: ⟨g2, c2, t2⟩ :: ⟨g1, c1, t1⟩ :: L)) : mixS P Q W Lc (.many [(k1, ⟨some d1, .alloc t1, ty1, ps1, af1, none⟩), (k2, ⟨some d2, .alloc t2, ty2, ps2, af2, none⟩), (k3, ⟨some d3, .alloc t3, ty3, ps3, af3, none⟩)] :: r) a L :=
  have hd := of_decide_eq_true hd
  have hk := of_decide_eq_true hk
  ⟨[⟨k1, d1, c1, t1⟩, ⟨k2, d2, c2, t2⟩, ⟨k3, d3, c3, t3⟩], by simp [hd, hk], ⟨⟨rfl, ⟨_, _, _, rfl⟩, hz1⟩, ⟨rfl, ⟨_, _, _, rfl⟩, hz2⟩, ⟨rfl, ⟨_, _, _, rfl⟩, hz3⟩, trivial⟩, fun gs => h (gs k1) (gs k2) (gs k3)⟩
theorem so_four {k1 d1 k2 d2 k3 d3 k4 d4 : Nat} {t1 ty1 t2 ty2 t3 ty3 t4 ty4 : TypeId} {ps1 ps2 ps3 ps4 : String} {af1 af2 af3 af4 : Array Edge} {c1 c2 c3 c4 : Array Value} (hd : decide (d1 ≠ d2 ∧ d1 ≠ d3 ∧ d1 ≠ d4 ∧ d2 ≠ d3 ∧ d2 ≠ d4 ∧ d3 ≠ d4) = true) (hk : decide (k1 ≠ k2 ∧ k1 ≠ k3 ∧ k1 ≠ k4 ∧ k2 ≠ k3 ∧ k2 ≠ k4 ∧ k3 ≠ k4) = true) (hz1 : ZeroC P t1 c1) (hz2 : ZeroC P t2 c2) (hz3 : ZeroC P t3 c3) (hz4 : ZeroC P t4 c4)
    (h : ∀ g1 g2 g3 g4, mixS P Q W Lc r ((((a.put (some d1) (.pointer (some ⟨g1, 0, none⟩))).put (some d2) (.pointer (some ⟨g2, 0, none⟩))).put (some d3) (.pointer (some ⟨g3, 0, none⟩))).put (some d4) (.pointer (some ⟨g4, 0, none⟩))) (⟨g4, c4, t4⟩ :: ⟨g3, c3, t3⟩ :: ⟨g2, c2, t2⟩ :: ⟨g1, c1, t1⟩ :: L)) : mixS P Q W Lc (.many [(k1, ⟨some d1, .alloc t1, ty1, ps1, af1, none⟩), (k2, ⟨some d2, .alloc t2, ty2, ps2, af2, none⟩), (k3, ⟨some d3, .alloc t3, ty3, ps3, af3, none⟩), (k4, ⟨some d4, .alloc t4, ty4, ps4, af4, none⟩)] :: r) a L :=
  have hd := of_decide_eq_true hd
  have hk := of_decide_eq_true hk
  ⟨[⟨k1, d1, c1, t1⟩, ⟨k2, d2, c2, t2⟩, ⟨k3, d3, c3, t3⟩, ⟨k4, d4, c4, t4⟩], by simp [hd, hk], ⟨⟨rfl, ⟨_, _, _, rfl⟩, hz1⟩, ⟨rfl, ⟨_, _, _, rfl⟩, hz2⟩, ⟨rfl, ⟨_, _, _, rfl⟩, hz3⟩, ⟨rfl, ⟨_, _, _, rfl⟩, hz4⟩, trivial⟩, fun gs => h (gs k1) (gs k2) (gs k3) (gs k4)⟩
theorem so_call {op : Op} {d : Option Tmp} {f : FuncId} {args : Array Value} {v : Value} (hs : Sub Lc L) (he : ∀ w, (execOp a.eval ⟨d, op, ty, ps, af, none⟩).run P w = .ok (.enter f args) w) (hc : ∀ u : KW W L, Calls P f args u.w (Ret v u.w)) (h : mixS P Q W Lc r (a.put d v) L) : mixS P Q W Lc (.sole ⟨d, op, ty, ps, af, none⟩ :: r) a L := by
  refine ⟨rfl, fun u => ?_⟩
  rw [he]
  refine (hc u).mono fun e w' ⟨h1, hb⟩ => ?_
  obtain ⟨u', hu'⟩ := u.go hb
  exact ⟨v, L, h1, hs, ⟨u', hu'⟩, h⟩
end
/-! ### a chain of calls beside which one alloc may come at any place: ms1 the chain, i the alloc, ms2 what waits for it -/
section
variable {P : Program} {ops : Array Oper} {md : Region.Mode} {Q : Exit → Act → World → Prop} {S : World → Prop} {W : World} {L Lc : List Ent}
def floatB (md : Region.Mode) (ops : Array Oper) (i : Nat) (ms2 : List (Bool × Nat)) : List (Bool × Nat) → Array Bool → Bool
  | [], ls => decide (Region.ready md ops ls = [i]) && (ops[i]?).isSome && mixB md ops ms2 (ls.setIfInBounds i true)
  | (true, k) :: r, ls => (Region.ready md ops ls).contains k && Region.free md ops ls k && (ops[k]?).isSome && floatB md ops i ms2 r (ls.setIfInBounds k true)
  | (false, k) :: r, ls => (Region.ready md ops ls).all (fun j => j == i || j == k) && !(Region.ready md ops ls).isEmpty && (ops[k]?).isSome && (ops[i]?).isSome && floatB md ops i ms2 r (ls.setIfInBounds k true) && mixB md ops ((false, k) :: r ++ ms2) (ls.setIfInBounds i true)
def floatT (P : Program) (ops : Array Oper) (S : World → Prop) (Q : Exit → Act → World → Prop) (oi : Oper) (ms2 : List (Bool × Oper)) : List (Bool × Oper) → Act → World → Prop
  | [], a, w => Region.wanted oi (yielded ops a.tmps) = true ∧ oi.wp P a w (fun a' w' => S w' ∧ mixT P ops S Q ms2 a' w') Q
  | (true, o) :: r, a, w => ∃ v, YieldsIf P ops S o v a ∧ floatT P ops S Q oi ms2 r (a.put o.dst v) w
  | (false, o) :: r, a, w => (Region.wanted o (yielded ops a.tmps) = true ∧ o.wp P a w (fun a' w' => S w' ∧ floatT P ops S Q oi ms2 r a' w') Q) ∧
      (Region.wanted oi (yielded ops a.tmps) = true ∧ oi.wp P a w (fun a' w' => S w' ∧ mixT P ops S Q ((false, o) :: r ++ ms2) a' w') Q)
theorem picks_append (l : List Oper) (m1 m2 : List (Bool × Nat)) : picks l (m1 ++ m2) = picks l m1 ++ picks l m2 := by simp [picks]
theorem held_float {l : List Oper} {i : Nat} {oi : Oper} {ms2 : List (Bool × Nat)} (hl : ops = l.toArray) (hsel : Region.noSelect ops = true) (hQ : ∀ c a w d v, Q (.panic c) (Act.put a d v) w → Q (.panic c) a w) (hoi : ops[i]? = some oi) :
    ∀ (ms : List (Bool × Nat)) (ls : Array Bool) (a : Act) (w : World), floatB md ops i ms2 ms ls = true → S w → floatT P ops S Q oi (picks l ms2) (picks l ms) a w → wpAnyH P md ops Q S (ms.length + ms2.length + 1) ls a w
  | [], ls, a, w, hB, hS, h => by
    simp only [floatB, Bool.and_eq_true, decide_eq_true_eq] at hB
    rw [List.length_nil, Nat.zero_add]
    refine ⟨fun h1 => (by rw [hB.1.1] at h1; cases h1), fun j hj => ?_⟩
    rw [hB.1.1] at hj
    have hji : j = i := by simpa using hj
    subst hji
    have hw : wpOp P ops Q j (fun a' w' => S w' ∧ mixT P ops S Q (picks l ms2) a' w') a w := by
      unfold wpOp
      simp only [hoi]
      rw [if_pos h.1]
      exact Or.inl h.2
    exact wpOp_mono (fun a' w' h' => ⟨h'.1, held_mix hl hsel hQ ms2 _ a' w' hB.2 h'.1 h'.2⟩) hw
  | (true, k) :: ms, ls, a, w, hB, hS, h => by
    simp only [floatB, Bool.and_eq_true] at hB
    obtain ⟨o, h0⟩ := Option.isSome_iff_exists.1 hB.1.2
    have h0' : l[k]? = some o := by rw [hl] at h0; simpa using h0
    simp only [picks, List.filterMap_cons, h0', Option.map_some] at h
    obtain ⟨v, hy, hR⟩ := h
    rw [List.length_cons, show ms.length + 1 + ms2.length + 1 = (ms.length + ms2.length + 1) + 1 by omega]
    exact wpAnyH_take h0 hsel hB.1.1.2 hB.1.1.1 (fun c a w h => hQ c a w _ _ h) hy hS (held_float hl hsel hQ hoi ms _ _ w hB.2 hS hR)
  | (false, k) :: ms, ls, a, w, hB, hS, h => by
    simp only [floatB, Bool.and_eq_true] at hB
    obtain ⟨o, h0⟩ := Option.isSome_iff_exists.1 hB.1.1.1.2
    have h0' : l[k]? = some o := by rw [hl] at h0; simpa using h0
    simp only [picks, List.filterMap_cons, h0', Option.map_some] at h
    rw [List.length_cons, show ms.length + 1 + ms2.length + 1 = (ms.length + ms2.length + 1) + 1 by omega]
    refine ⟨fun h1 => ?_, fun j hj => ?_⟩
    · have := hB.1.1.1.1.2
      rw [h1] at this
      simp at this
    · have hall := List.all_eq_true.1 hB.1.1.1.1.1 j hj
      by_cases hji : j = i
      · subst hji
        have hw : wpOp P ops Q j (fun a' w' => S w' ∧ mixT P ops S Q (picks l ((false, k) :: ms ++ ms2)) a' w') a w := by
          unfold wpOp
          simp only [hoi]
          rw [if_pos h.2.1, picks_append]
          simp only [picks, List.filterMap_cons, h0', Option.map_some]
          exact Or.inl h.2.2
        refine wpOp_mono (fun a' w' h' => ⟨h'.1, ?_⟩) hw
        have := held_mix hl hsel hQ _ _ a' w' hB.2 h'.1 h'.2
        rw [List.cons_append, List.length_cons, List.length_append] at this
        exact this
      · have hjk : j = k := by simpa [hji] using hall
        subst hjk
        have hw : wpOp P ops Q j (fun a' w' => S w' ∧ floatT P ops S Q oi (picks l ms2) (picks l ms) a' w') a w := by
          unfold wpOp
          simp only [h0]
          rw [if_pos h.1.1]
          exact Or.inl h.1.2
        exact wpOp_mono (fun a' w' h' => ⟨h'.1, held_float hl hsel hQ hoi ms _ a' w' hB.1.2 h'.1 h'.2⟩) hw
theorem region_float {id : Nat} {l : List Oper} {a : Act} {u : KW W L} (ms1 : List (Bool × Nat)) (i : Nat) (ms2 : List (Bool × Nat)) (oi : Oper) (Lc : List Ent) (hs : Sub Lc L) (hm : P.follows .mixedOrders = true) (hoi : l[i]? = some oi)
    (hB : (Region.noSelect l.toArray && decide (ms1.length + ms2.length + 1 = l.length) && floatB .any l.toArray i ms2 ms1 (Array.replicate l.length false)) = true) (hQ : ∀ c a w d v, Q (.panic c) (Act.put a d v) w → Q (.panic c) a w)
    (h : ∀ u' : KW W L, Below u.w.heap.size u.w u'.w → floatT P l.toArray (Known W Lc) Q oi (picks l ms2) (picks l ms1) a u'.w) : (Code.region id l.toArray true).wp P Q a u.w := by
  simp only [Bool.and_eq_true, decide_eq_true_eq] at hB
  refine wp_region_held (S := Known W Lc) hm ?_
  have A := held_float (md := .any) (Q := Q) rfl hB.1.1 hQ (show l.toArray[i]? = some oi by simpa using hoi) ms1 _ a u.drew.w hB.2 (KW.weak (h := hs) u.drew) (h u.drew (Below.drew (Below.refl _ _)))
  rw [hB.1.2] at A
  have e : l.toArray.size = l.length := by simp
  rw [e]
  exact A
end
section
variable {P : Program} {ops : Array Oper} {Q : Exit → Act → World → Prop} {a : Act} {S : World → Prop} {w : World} {W : World} {L Lc : List Ent} {u : KW W L} {d : Tmp} {t ty : TypeId} {ps : String} {af : Array Edge} {x : Operand} {oi : Oper} {m2 mr : List (Bool × Oper)} {gd : Option (Nat × Bool)}
theorem wp_enters {op : Op} {d : Option Tmp} {f : FuncId} {args : Array Value} {K : Act → World → Prop} (he : (execOp a.eval ⟨d, op, ty, ps, af, gd⟩).run P w = .ok (.enter f args) w)
    (h : Calls P f args w fun e w' => ∃ v, e = .returned v ∧ S w' ∧ K (a.put d v) w') : (⟨d, op, ty, ps, af, gd⟩ : Oper).wp P a w (fun a' w' => S w' ∧ K a' w') Q := by
  unfold Oper.wp
  rw [he]
  refine Calls.mono h fun e w' ⟨v, h0, h1, h2⟩ => ?_
  subst h0
  exact ⟨h1, h2⟩
theorem wp_allocs {c : Array Value} {K : Act → World → Prop} (hz : ZeroC P t c) (hs : Sub Lc L) (h : ∀ (g : Nat) (u' : KW W (⟨g, c, t⟩ :: L)), Below u.w.heap.size u.w u'.w → K (a.put (some d) (.pointer (some ⟨g, 0, none⟩))) u'.w) :
    (⟨some d, .alloc t, ty, ps, af, gd⟩ : Oper).wp P a u.w (fun a' w' => Known W Lc w' ∧ K a' w') Q := by
  obtain ⟨i, hi, hz'⟩ := Option.map_eq_some_iff.1 hz.out
  obtain ⟨v, hv, rfl⟩ := Option.map_eq_some_iff.1 hz'
  have hr : (Instr.alloc t true (.tuple #[])).run P u.w = .ok (.pointer (some ⟨u.w.heap.size, 0, none⟩)) (u.alloc v.cells t).w := by
    simp [Instr.alloc, zeroValue, typeInfo, hi, hv, newVar, newRow, KW.alloc, go_sem]
  unfold Oper.wp execOp
  simp only [Sem.run_bind, hr, Result.andThen_ok, Sem.run_pure]
  exact ⟨KW.weak (h := Sub.skip (h := hs)) (u.alloc v.cells t), h _ _ ((Below.refl _ _).alloc (Nat.le_refl _) _)⟩
theorem fl_nil (hw : Region.wanted oi (yielded ops a.tmps) = true) (h : oi.wp P a w (fun a' w' => S w' ∧ mixT P ops S Q m2 a' w') Q) : floatT P ops S Q oi m2 [] a w := ⟨hw, h⟩
theorem fl_take {o : Oper} {v : Value} (hv : YieldsIf P ops S o v a) (h : floatT P ops S Q oi m2 mr (a.put o.dst v) w) : floatT P ops S Q oi m2 ((true, o) :: mr) a w := ⟨v, hv, h⟩
theorem fl_value {op : Op} {d : Option Tmp} {v : Value} (hw : Region.wanted ⟨d, op, ty, ps, af, gd⟩ (yielded ops a.tmps) = true) (hv : ∀ w, (execOp a.eval ⟨d, op, ty, ps, af, gd⟩).run P w = .ok (.value v) w) (h : floatT P ops S Q oi m2 mr (a.put d v) w) : floatT P ops S Q oi m2 ((true, ⟨d, op, ty, ps, af, gd⟩) :: mr) a w :=
  ⟨v, Or.inl ⟨hw, fun w _ => hv w⟩, h⟩
theorem fl_load {g o : Nat} {c c' : Array Value} {t' : TypeId} (hw : Region.wanted ⟨some d, .load t x, ty, ps, af, gd⟩ (yielded ops a.tmps) = true) (hx : a.eval x = .pointer (some ⟨g, o, none⟩)) (hp : Has Lc g c t') (hq : Part P t c o c')
    (h : floatT P ops (Known W Lc) Q oi m2 mr (a.put (some d) (.agg c')) w) : floatT P ops (Known W Lc) Q oi m2 ((true, ⟨some d, .load t x, ty, ps, af, gd⟩) :: mr) a w := by
  refine ⟨.agg c', Or.inl ⟨hw, ?_⟩, h⟩
  rintro w ⟨u, rfl⟩
  unfold execOp
  simp only [hx, Sem.run_bind, run_loadAt_part u hp hq, Result.andThen_ok, Sem.run_pure]
theorem fl_both {o : Oper} (hw : Region.wanted o (yielded ops a.tmps) = true) (hw' : Region.wanted oi (yielded ops a.tmps) = true) (he : oi.wp P a w (fun a' w' => S w' ∧ mixT P ops S Q ((false, o) :: mr ++ m2) a' w') Q) (h : o.wp P a w (fun a' w' => S w' ∧ floatT P ops S Q oi m2 mr a' w') Q) : floatT P ops S Q oi m2 ((false, o) :: mr) a w :=
  ⟨⟨hw, h⟩, hw', he⟩
theorem mx_only {o : Oper} (hw : Region.wanted o (yielded ops a.tmps) = true) (h : o.wp P a w (fun a' w' => S w' ∧ mixT P ops S Q mr a' w') Q) : mixT P ops S Q ((false, o) :: mr) a w := ⟨hw, h⟩
end
/-! results that lie in variables -/
section
variable {P : Program} {fn : Func} {R : Ending → World → Prop} {tmps : Array Value} {W : World} {L : List Ent} {u : KW W L} {ty : TypeId} {p q : Tmp} {g : Nat} {c : Array Value} {t : TypeId}
theorem bd_cell (hf : fn.results = #[.cell p ty]) (hp : tmps.getD p undef = .pointer (some ⟨g, 0, none⟩)) (h : Has L g c t) (hr : Cel P ty c) (hR : R (.returned (.agg c)) u.w) :
    bodyPost P fn R .ret ⟨tmps, []⟩ u.w := body_cell hf hp hr.row rfl hR
theorem bd_cell_tmp {v : Value} (hf : fn.results = #[.cell p ty, .tmp q]) (hp : tmps.getD p undef = .pointer (some ⟨g, 0, none⟩)) (hq : tmps.getD q undef = v) (h : Has L g c t) (hr : Cel P ty c)
    (hR : R (.returned (.tuple #[.agg c, v])) u.w) : bodyPost P fn R .ret ⟨tmps, []⟩ u.w := body_cell_tmp hf hp hq hr.row rfl hR
end
end KM

/- Structs by their cells, for any program: parts by extraction, equality field by field. -/
namespace KM
open Go Go.RowKit
theorem Part.of {P : Program} {t : TypeId} {c : Array Value} {o : Nat} {c' : Array Value} (hr : Row P t c'.size) (he : c.extract o (o + c'.size) = c') : Part P t c o c' :=
  ⟨hr, fun j hj => by
    have h := congrArg (·[j]?) he
    simp only [Array.getElem?_extract] at h
    by_cases hc : j < min (o + c'.size) c.size - o
    · rw [if_pos hc] at h; exact h
    · rw [if_neg hc] at h
      have := h.symm
      rw [Array.getElem?_eq_none_iff] at this
      omega⟩
theorem eqFields_cons {P : Program} {w : World} {d : Nat} {c c' : Array Value} {f : Field} {fs : List Field} {v v' : Value} {b : Bool} (hf : f.name ≠ "_")
    (h1 : (part f.type c f.offset).run P w = .ok v w) (h2 : (part f.type c' f.offset).run P w = .ok v' w) (he : (Op.equalIn d f.type v v').run P w = .ok b w) :
    (Op.eqFields d c c' (f :: fs)).run P w = if b = true then (Op.eqFields d c c' fs).run P w else .ok false w := by
  simp only [Op.eqFields, if_pos hf, Sem.run_bind, h1, h2, he, Result.andThen_ok]
  cases b <;> rfl
def allB : List Bool → Bool
  | [] => true
  | [b] => b
  | b :: r => b && allB r
theorem allB_cons (b : Bool) (r : List Bool) : allB (b :: r) = (b && allB r) := by
  cases r with
  | nil => simp [allB]
  | cons c r => rfl
/-- the fields' parts compare as told -/
def EqAll (P : Program) (w : World) (d : Nat) (c c' : Array Value) : List (TypeId × Nat) → List Bool → Prop
  | [], [] => True
  | (t, o) :: r, b :: bs => (∃ v v', (part t c o).run P w = .ok v w ∧ (part t c' o).run P w = .ok v' w ∧ (Op.equalIn d t v v').run P w = .ok b w) ∧ EqAll P w d c c' r bs
  | _, _ => False
theorem eqFields_all {P : Program} {w : World} {d : Nat} {c c' : Array Value} : ∀ (fs : List Field) (spec : List (TypeId × Nat)) (bs : List Bool), fs.map (fun f => (decide (f.name ≠ "_"), f.type, f.offset)) = spec.map (fun s => (true, s.1, s.2)) →
    EqAll P w d c c' spec bs → (Op.eqFields d c c' fs).run P w = .ok (allB bs) w
  | [], [], [], _, _ => by simp [Op.eqFields, allB]
  | [], [], _ :: _, _, h => by simp [EqAll] at h
  | [], _ :: _, _, h, _ => by simp at h
  | _ :: _, [], _, h, _ => by simp at h
  | _ :: _, _ :: _, [], _, h => by simp [EqAll] at h
  | f :: fs, (t, o) :: spec, b :: bs, h, ⟨⟨v, v', h1, h2, he⟩, hr⟩ => by
    simp only [List.map_cons, List.cons.injEq, Prod.mk.injEq, decide_eq_true_eq] at h
    obtain ⟨⟨hn, ht, ho⟩, hs⟩ := h
    subst ht ho
    rw [eqFields_cons hn h1 h2 he, eqFields_all fs spec bs hs hr, allB_cons]
    cases b <;> rfl
theorem eqStruct {P : Program} {t : TypeId} {w : World} {d : Nat} {c c' : Array Value} (spec : List (TypeId × Nat)) (bs : List Bool) (hS : P.underlying t = some (.struct (P.fieldsOf t))) (hp : P.stoodInHeld t = false)
    (hF : (P.fieldsOf t).toList.map (fun f => (decide (f.name ≠ "_"), f.type, f.offset)) = spec.map (fun s => (true, s.1, s.2))) (h : EqAll P w d c c' spec bs) :
    (Op.equalIn (d + 1) t (.agg c) (.agg c')).run P w = .ok (allB bs) w := by
  rw [run_equalIn_struct w d t c c' hS hp]
  exact eqFields_all _ spec bs hF h
theorem at_depth {P : Nat → Prop} {k n : Nat} (h : k = n) (hn : P n) : P k := h ▸ hn
theorem part_row {P : Program} {t : TypeId} {c c' : Array Value} {o : Nat} (hr : Row P t c'.size) (he : c.extract o (o + c'.size) = c') (w : World) : (part t c o).run P w = .ok (.agg c') w := by
  rw [run_part_row hr, he]
/-- a field of a struct that is a value -/
theorem run_field {P : Program} {t tf : TypeId} {c : Array Value} {k o : Nat} {v : Value} (hu : P.underlying t = some (.struct (P.fieldsOf t))) (h0 : (P.fieldsOf t)[k]?.map (fun f => (f.type, f.offset)) = some (tf, o))
    (hv : ∀ w, (part tf c o).run P w = .ok v w) (w : World) : (Instr.field t (.agg c) k).run P w = .ok v w := by
  obtain ⟨f, hf, hf'⟩ := Option.map_eq_some_iff.1 h0
  obtain ⟨e1, e2⟩ := Prod.mk.inj hf'
  simp only [Instr.field, Sem.run_bind, run_underlying hu, Result.andThen_ok, hf, e1, e2]
  simp only [asAgg, Sem.run_pure, Result.andThen_ok, hv]
section
variable {P : Program} {ops : Array Oper} {rest : List Oper} {a : Act} {W : World} {L : List Ent} {TQ : Act → Prop} {dq : Option Tmp} {ty : TypeId} {ps : String} {af : Array Edge} {gd : Option (Nat × Bool)}
/-- 'wpQuiet', closed to unfolding: 'apply' looks at its goal's weak head form -/
structure QQ (P : Program) (ops : Array Oper) (C : World → Prop) (TQ : Act → Prop) (rest : List Oper) (a : Act) : Prop where
  out : wpQuiet P ops C TQ rest a
variable {o : Oper} {C : World → Prop} {op : Op} {d : Tmp} {t : TypeId} {x : Operand}
theorem qq_skip (hw : Region.wanted o (yielded ops a.tmps) = false) (h : QQ P ops C TQ rest (a.put o.dst undef)) : QQ P ops C TQ (o :: rest) a := ⟨qt_skip hw h.out⟩
theorem qq_value {v : Value} (hv : ∀ w, (execOp a.eval ⟨dq, op, ty, ps, af, gd⟩).run P w = .ok (.value v) w) (hw : Region.wanted ⟨dq, op, ty, ps, af, gd⟩ (yielded ops a.tmps) = true) (h : QQ P ops C TQ rest (a.put dq v)) : QQ P ops C TQ (⟨dq, op, ty, ps, af, gd⟩ :: rest) a := ⟨qt_value hw hv h.out⟩
theorem qq_load {g o : Nat} {c c' : Array Value} {t' : TypeId} (hx : a.eval x = .pointer (some ⟨g, o, none⟩)) (hp : Has L g c t') (hq : Part P t c o c') (hw : Region.wanted ⟨some d, .load t x, ty, ps, af, gd⟩ (yielded ops a.tmps) = true)
    (h : QQ P ops (fun w' => ∃ u : KW W L, w' = u.w) TQ rest (a.put (some d) (.agg c'))) : QQ P ops (fun w' => ∃ u : KW W L, w' = u.w) TQ (⟨some d, .load t x, ty, ps, af, gd⟩ :: rest) a := ⟨qt_load hw hx hp hq h.out⟩
theorem qq_callf {f : FuncId} {xs : Array Operand} {ts : Array TypeId} {args : Array Value} {v : Value} (he : ∀ w, (execOp a.eval ⟨dq, .call ⟨.value (.func f), xs, ts⟩, ty, ps, af, gd⟩).run P w = .ok (.enter f args) w) (hc : ∀ u : KW W L, Calls P f args u.w (Ret v u.w)) (hw : Region.wanted ⟨dq, .call ⟨.value (.func f), xs, ts⟩, ty, ps, af, gd⟩ (yielded ops a.tmps) = true)
    (h : QQ P ops (fun w' => ∃ u : KW W L, w' = u.w) TQ rest (a.put dq v)) : QQ P ops (fun w' => ∃ u : KW W L, w' = u.w) TQ (⟨dq, .call ⟨.value (.func f), xs, ts⟩, ty, ps, af, gd⟩ :: rest) a := ⟨qt_call hw he hc h.out⟩
theorem qq_nil (h : TQ a) : QQ P ops C TQ [] a := ⟨wpQuiet_nil h⟩
end
/-- a type whose variables are one cell -/
class Scal (P : Program) (t : TypeId) : Prop where
  out : (match P.underlying t with | some (.struct _) => false | some (.array _ _) => false | some _ => true | none => false) = true
/-- the cell of c at o, a variable of type t, is v -/
class CellV (P : Program) (t : TypeId) (c : Array Value) (o : Nat) (v : outParam Value) : Prop where
  scal : Scal P t
  at_ : c[o]? = some v
instance CellV.one {P : Program} {t : TypeId} {v : Value} [h : Scal P t] : CellV P t #[v] 0 v := ⟨h, rfl⟩
theorem run_loadAt_cell {P : Program} {W : World} {L : List Ent} (u : KW W L) {g o : Nat} {c : Array Value} {t t' : TypeId} {v : Value} (hp : Has L g c t') (hq : CellV P t c o v) :
    (Instr.loadAt t (.pointer (some ⟨g, o, none⟩))).run P u.w = .ok v u.w := by
  have hc : u.w.cell? ⟨g, o, none⟩ = some v := by rw [u.cell? (h := hp), hq.at_]
  have h := hq.scal.out
  simp only [Instr.loadAt, Instr.sureAddr, Sem.run_bind, Sem.run_pure, Result.andThen_ok]
  unfold loadVar isAgg
  cases hu : P.underlying t with
  | none => rw [hu] at h; cases h
  | some d =>
    rw [hu] at h
    simp only [Sem.run_bind, run_underlying hu, Result.andThen_ok]
    cases d <;> first | (cases h; done) | simp [hc]
section
variable {P : Program} {ops : Array Oper} {rest : List Oper} {a : Act} {W : World} {L Lc : List Ent} {TQ : Act → Prop} {ty : TypeId} {ps : String} {af : Array Edge} {gd : Option (Nat × Bool)} {d : Tmp} {t t' : TypeId} {x : Operand} {v : Value} {g o : Nat} {c : Array Value} {Q : Exit → Act → World → Prop} {r : List St}
theorem qq_cell (hx : a.eval x = .pointer (some ⟨g, o, none⟩)) (hp : Has L g c t') (hq : CellV P t c o v) (hw : Region.wanted ⟨some d, .load t x, ty, ps, af, gd⟩ (yielded ops a.tmps) = true)
    (h : QQ P ops (fun w' => ∃ u : KW W L, w' = u.w) TQ rest (a.put (some d) v)) : QQ P ops (fun w' => ∃ u : KW W L, w' = u.w) TQ (⟨some d, .load t x, ty, ps, af, gd⟩ :: rest) a :=
  ⟨qt_some hw (by
    rintro w ⟨u, rfl⟩
    unfold Oper.quietAt execOp
    simp only [hx, Sem.run_bind, run_loadAt_cell u hp hq, Result.andThen_ok, Sem.run_pure]
    exact ⟨rfl, rfl⟩) h.out⟩
end
/-- 'mixS', closed to unfolding -/
structure MM (P : Program) (Q : Exit → Act → World → Prop) (W : World) (Lc : List Ent) (ms : List St) (a : Act) (L : List Ent) : Prop where
  out : mixS P Q W Lc ms a L
section
variable {P : Program} {Q : Exit → Act → World → Prop} {r : List St} {a : Act} {W : World} {L L' Lc : List Ent} {d : Tmp} {dq : Option Tmp} {t ty : TypeId} {ps : String} {af : Array Edge} {x y : Operand} {op : Op} {v : Value}
  {f : FuncId} {xs : Array Operand} {ts : Array TypeId} {args : Array Value} {g o : Nat} {c c' c'' : Array Value} {t' : TypeId}
theorem mm_nil (h : ∀ u : KW W L, Q .normal a u.w) : MM P Q W Lc [] a L := ⟨sm_nil h⟩
theorem mm_value (hv : ∀ w, (execOp a.eval ⟨dq, op, ty, ps, af, none⟩).run P w = .ok (.value v) w) (h : MM P Q W Lc r (a.put dq v) L) : MM P Q W Lc (.take ⟨dq, op, ty, ps, af, none⟩ :: r) a L := ⟨sm_value hv h.out⟩
theorem mm_load (hx : a.eval x = .pointer (some ⟨g, o, none⟩)) (hp : Has Lc g c t') (hq : Part P t c o c') (h : MM P Q W Lc r (a.put (some d) (.agg c')) L) : MM P Q W Lc (.take ⟨some d, .load t x, ty, ps, af, none⟩ :: r) a L := ⟨sm_load hx hp hq h.out⟩
theorem mm_callf (he : ∀ w, (execOp a.eval ⟨dq, .call ⟨.value (.func f), xs, ts⟩, ty, ps, af, none⟩).run P w = .ok (.enter f args) w) (hc : ∀ L, ∀ u : KW W L, Calls P f args u.w (Ret v u.w)) (h : MM P Q W Lc r (a.put dq v) L) :
    MM P Q W Lc (.take ⟨dq, .call ⟨.value (.func f), xs, ts⟩, ty, ps, af, none⟩ :: r) a L := ⟨sm_call he hc h.out⟩
theorem mo_value (hs : Sub Lc L) (hv : ∀ w, (execOp a.eval ⟨dq, op, ty, ps, af, none⟩).run P w = .ok (.value v) w) (h : MM P Q W Lc r (a.put dq v) L) : MM P Q W Lc (.sole ⟨dq, op, ty, ps, af, none⟩ :: r) a L := ⟨so_value hs hv h.out⟩
theorem mo_load (hs : Sub Lc L) (hx : a.eval x = .pointer (some ⟨g, o, none⟩)) (hp : Has L g c t') (hq : Part P t c o c') (h : MM P Q W Lc r (a.put (some d) (.agg c')) L) : MM P Q W Lc (.sole ⟨some d, .load t x, ty, ps, af, none⟩ :: r) a L := ⟨so_load hs hx hp hq h.out⟩
theorem mo_store (hx : a.eval x = .pointer (some ⟨g, o, none⟩)) (hy : a.eval y = .agg c') (hp : Has L g c t') (hq : PutP P t c o c' c'') (hL : PutAll L g c'' c L') (hs : Sub Lc L') (h : MM P Q W Lc r a L') :
    MM P Q W Lc (.sole ⟨none, .store t x y, ty, ps, af, none⟩ :: r) a L := ⟨so_store hx hy hp hq hL hs h.out⟩
theorem mo_put (hx : a.eval x = .pointer (some ⟨g, o, none⟩)) (hy : a.eval y = v) (hp : Has L g c t') (hq : PutV P t c o v c') (hL : PutAll L g c' c L') (hs : Sub Lc L') (h : MM P Q W Lc r a L') :
    MM P Q W Lc (.sole ⟨none, .store t x y, ty, ps, af, none⟩ :: r) a L := by
  refine ⟨rfl, fun u => ?_⟩
  obtain ⟨u', hu'⟩ := KM.ex_put u hp hq hL
  unfold execOp
  simp only [hx, hy, Instr.storeAt, Instr.sureAddr, Sem.run_bind, Sem.run_pure, Result.andThen_ok, hu']
  exact ⟨L', hs, ⟨u', rfl⟩, h.out⟩
theorem mo_alloc (hz : ZeroC P t c) (hs : Sub Lc L) (h : ∀ g, MM P Q W Lc r (a.put (some d) (.pointer (some ⟨g, 0, none⟩))) (⟨g, c, t⟩ :: L)) : MM P Q W Lc (.sole ⟨some d, .alloc t, ty, ps, af, none⟩ :: r) a L := ⟨so_alloc hz hs fun g => (h g).out⟩
theorem mo_two {d e : Nat} {t t' ty ty' : TypeId} {ps ps' : String} {af af' : Array Edge} {c c' : Array Value} (hz : ZeroC P t c) (hz' : ZeroC P t' c') (hde : d ≠ e)
    (h : ∀ g g', MM P Q W Lc r ((a.put (some d) (.pointer (some ⟨g, 0, none⟩))).put (some e) (.pointer (some ⟨g', 0, none⟩))) (⟨g', c', t'⟩ :: ⟨g, c, t⟩ :: L)) : MM P Q W Lc (.two ⟨some d, .alloc t, ty, ps, af, none⟩ ⟨some e, .alloc t', ty', ps', af', none⟩ :: r) a L := ⟨so_two hde hz hz' fun g g' => (h g g').out⟩
theorem mo_three {k1 d1 k2 d2 k3 d3 : Nat} {t1 ty1 t2 ty2 t3 ty3 : TypeId} {ps1 ps2 ps3 : String} {af1 af2 af3 : Array Edge} {c1 c2 c3 : Array Value} (hd : decide (d1 ≠ d2 ∧ d1 ≠ d3 ∧ d2 ≠ d3) = true) (hk : decide (k1 ≠ k2 ∧ k1 ≠ k3 ∧ k2 ≠ k3) = true) (hz1 : ZeroC P t1 c1) (hz2 : ZeroC P t2 c2) (hz3 : ZeroC P t3 c3)
    (h : ∀ g1 g2 g3, MM P Q W Lc r (((a.put (some d1) (.pointer (some ⟨g1, 0, none⟩))).put (some d2) (.pointer (some ⟨g2, 0, none⟩))).put (some d3) (.pointer (some ⟨g3, 0, none⟩))) (⟨g3, c3, t3⟩ :: ⟨g2, c2, t2⟩ :: ⟨g1, c1, t1⟩ :: L)) : MM P Q W Lc (.many [(k1, ⟨some d1, .alloc t1, ty1, ps1, af1, none⟩), (k2, ⟨some d2, .alloc t2, ty2, ps2, af2, none⟩), (k3, ⟨some d3, .alloc t3, ty3, ps3, af3, none⟩)] :: r) a L := ⟨so_three hd hk hz1 hz2 hz3 fun g1 g2 g3 => (h g1 g2 g3).out⟩
theorem mo_four {k1 d1 k2 d2 k3 d3 k4 d4 : Nat} {t1 ty1 t2 ty2 t3 ty3 t4 ty4 : TypeId} {ps1 ps2 ps3 ps4 : String} {af1 af2 af3 af4 : Array Edge} {c1 c2 c3 c4 : Array Value} (hd : decide (d1 ≠ d2 ∧ d1 ≠ d3 ∧ d1 ≠ d4 ∧ d2 ≠ d3 ∧ d2 ≠ d4 ∧ d3 ≠ d4) = true) (hk : decide (k1 ≠ k2 ∧ k1 ≠ k3 ∧ k1 ≠ k4 ∧ k2 ≠ k3 ∧ k2 ≠ k4 ∧ k3 ≠ k4) = true) (hz1 : ZeroC P t1 c1) (hz2 : ZeroC P t2 c2) (hz3 : ZeroC P t3 c3) (hz4 : ZeroC P t4 c4)
    (h : ∀ g1 g2 g3 g4, MM P Q W Lc r ((((a.put (some d1) (.pointer (some ⟨g1, 0, none⟩))).put (some d2) (.pointer (some ⟨g2, 0, none⟩))).put (some d3) (.pointer (some ⟨g3, 0, none⟩))).put (some d4) (.pointer (some ⟨g4, 0, none⟩))) (⟨g4, c4, t4⟩ :: ⟨g3, c3, t3⟩ :: ⟨g2, c2, t2⟩ :: ⟨g1, c1, t1⟩ :: L)) : MM P Q W Lc (.many [(k1, ⟨some d1, .alloc t1, ty1, ps1, af1, none⟩), (k2, ⟨some d2, .alloc t2, ty2, ps2, af2, none⟩), (k3, ⟨some d3, .alloc t3, ty3, ps3, af3, none⟩), (k4, ⟨some d4, .alloc t4, ty4, ps4, af4, none⟩)] :: r) a L := ⟨so_four hd hk hz1 hz2 hz3 hz4 fun g1 g2 g3 g4 => (h g1 g2 g3 g4).out⟩
theorem mo_callf (hs : Sub Lc L) (he : ∀ w, (execOp a.eval ⟨dq, .call ⟨.value (.func f), xs, ts⟩, ty, ps, af, none⟩).run P w = .ok (.enter f args) w) (hc : ∀ u : KW W L, Calls P f args u.w (Ret v u.w)) (h : MM P Q W Lc r (a.put dq v) L) :
    MM P Q W Lc (.sole ⟨dq, .call ⟨.value (.func f), xs, ts⟩, ty, ps, af, none⟩ :: r) a L := ⟨so_call hs he hc h.out⟩
theorem mm_cell (hx : a.eval x = .pointer (some ⟨g, o, none⟩)) (hp : Has Lc g c t') (hq : CellV P t c o v) (h : MM P Q W Lc r (a.put (some d) v) L) : MM P Q W Lc (.take ⟨some d, .load t x, ty, ps, af, none⟩ :: r) a L := by
  refine ⟨⟨rfl, v, fun L hL u => ?_, h.out⟩⟩
  have hp' : Has L g c t' := ⟨hL.out.subset hp.out⟩
  unfold execOp
  simp only [hx, Sem.run_bind, run_loadAt_cell u hp' hq, Result.andThen_ok, Sem.run_pure]
  exact ⟨L, hL, ⟨u, rfl⟩, rfl, rfl⟩
theorem mo_cell (hs : Sub Lc L) (hx : a.eval x = .pointer (some ⟨g, o, none⟩)) (hp : Has L g c t') (hq : CellV P t c o v) (h : MM P Q W Lc r (a.put (some d) v) L) : MM P Q W Lc (.sole ⟨some d, .load t x, ty, ps, af, none⟩ :: r) a L := by
  refine ⟨⟨rfl, fun u => ?_⟩⟩
  unfold execOp
  simp only [hx, Sem.run_bind, run_loadAt_cell u hp hq, Result.andThen_ok, Sem.run_pure]
  exact ⟨L, hs, ⟨u, rfl⟩, h.out⟩
end
section
variable {P : Program} {fn : Func} {R : Ending → World → Prop} {tmps : Array Value} {W : World} {L : List Ent} {u : KW W L} {ty ty' : TypeId} {p q r : Tmp} {g g' : Nat} {c c' : Array Value} {t t' : TypeId}
theorem bd_cell2 (hf : fn.results = #[.cell p ty, .cell q ty']) (hp : tmps.getD p undef = .pointer (some ⟨g, 0, none⟩)) (hq : tmps.getD q undef = .pointer (some ⟨g', 0, none⟩)) (h : Has L g c t) (h' : Has L g' c' t') (hr : Cel P ty c) (hr' : Cel P ty' c')
    (hR : R (.returned (.tuple #[.agg c, .agg c'])) u.w) : bodyPost P fn R .ret ⟨tmps, []⟩ u.w := by
  obtain ⟨h1, h2⟩ := run_cell (u := u) hp hr.row rfl
  obtain ⟨h3, h4⟩ := run_cell (u := u) hq hr'.row rfl
  refine bodyPost_ret (v := .tuple #[.agg c, .agg c']) ?_ rfl hR
  simp only [Array.getD_eq_getD_getElem?] at h1 h3
  simp only [results, hf]
  simp [Sem.run_bind, h1, h2, h3, h4]
end
section
variable {P : Program} {ops : Array Oper} {rest : List Oper} {a : Act} {W : World} {L : List Ent} {u : KW W L} {Q : Exit → Act → World → Prop} {ty : TypeId} {ps : String} {af : Array Edge} {gd : Option (Nat × Bool)} {d : Tmp} {t t' : TypeId} {x : Operand} {v : Value} {g o : Nat} {c : Array Value}
theorem ls_cell (hx : a.eval x = .pointer (some ⟨g, o, none⟩)) (hp : Has L g c t') (hq : CellV P t c o v)
    (h : wpList P ops Q rest (a.put (some d) v) u.w) : wpList P ops Q (⟨some d, .load t x, ty, ps, af, none⟩ :: rest) a u.w := by
  refine wpList_plain rfl fun K hK => ?_
  unfold Oper.wp execOp
  simp only [hx, Sem.run_bind, run_loadAt_cell u hp hq, Result.andThen_ok, Sem.run_pure]
  exact hK _ _ h
theorem lsg_cell (hw : Region.wanted ⟨some d, .load t x, ty, ps, af, gd⟩ (yielded ops a.tmps) = true) (hx : a.eval x = .pointer (some ⟨g, o, none⟩)) (hp : Has L g c t') (hq : CellV P t c o v)
    (h : wpList P ops Q rest (a.put (some d) v) u.w) : wpList P ops Q (⟨some d, .load t x, ty, ps, af, gd⟩ :: rest) a u.w := by
  unfold wpList
  rw [if_pos hw]
  left
  unfold Oper.wp execOp
  simp only [hx, Sem.run_bind, run_loadAt_cell u hp hq, Result.andThen_ok, Sem.run_pure]
  exact h
end
end KM

/- Regions that draw their order, walked order by order (few orders), for any program. -/
namespace KM
open Go Go.RowKit
section
variable {P : Program} {ops : Array Oper} {Q : Exit → Act → World → Prop} {W : World} {L L' : List Ent} {a : Act} {ls : Array Bool} {f i j k : Nat} {o o' o'' : Oper}
/-- 'anyS', closed to unfolding -/
structure AA (P : Program) (ops : Array Oper) (Q : Exit → Act → World → Prop) (W : World) (f : Nat) (ls : Array Bool) (a : Act) (L : List Ent) : Prop where
  out : anyS P .any ops Q W [] f ls a L
structure SE (P : Program) (W : World) (o : Oper) (a : Act) (L : List Ent) (K : Value → List Ent → Prop) : Prop where
  guard : o.guard = none
  out : StepE P W [] (execOp a.eval o) L K
theorem region_fork {id : Nat} {l : List Oper} {u : KW W L} (hm : P.follows .mixedOrders = true) (h : AA P l.toArray Q W l.length (Array.replicate l.length false) a L) : (Code.region id l.toArray true).wp P Q a u.w := by
  refine wp_region_any hm ?_
  have e : l.toArray.size = l.length := by simp
  rw [e]
  exact any_sound _ _ _ L u.drew h.out
theorem aa_nil (hr : Region.ready .any ops ls = []) (h : ∀ u : KW W L, Q .normal a u.w) : AA P ops Q W 0 ls a L := ⟨hr, h⟩
abbrev Nxt (P : Program) (ops : Array Oper) (Q : Exit → Act → World → Prop) (W : World) (f : Nat) (ls : Array Bool) (a : Act) (i : Nat) (o : Oper) (v : Value) (L' : List Ent) : Prop := AA P ops Q W f (ls.setIfInBounds i true) (a.put o.dst v) L'
theorem aa_one (i : Nat) (hr : Region.ready .any ops ls = [i]) (ho : ops[i]? = some o) (h : SE P W o a L (Nxt P ops Q W f ls a i o)) : AA P ops Q W (f + 1) ls a L :=
  ⟨⟨fun h0 => (by rw [hr] at h0; cases h0), fun x hx => by
    rw [hr] at hx
    obtain rfl : x = i := by simpa using hx
    exact ⟨o, ho, h.guard, h.out.mono fun _ _ h => h.out⟩⟩⟩
theorem aa_two (i j : Nat) (hr : Region.ready .any ops ls = [i, j]) (ho : ops[i]? = some o) (ho' : ops[j]? = some o') (h : SE P W o a L (Nxt P ops Q W f ls a i o)) (h' : SE P W o' a L (Nxt P ops Q W f ls a j o')) : AA P ops Q W (f + 1) ls a L :=
  ⟨⟨fun h0 => (by rw [hr] at h0; cases h0), fun x hx => by
    rw [hr] at hx
    simp only [List.mem_cons, List.not_mem_nil, or_false] at hx
    rcases hx with rfl | rfl
    · exact ⟨o, ho, h.guard, h.out.mono fun _ _ h => h.out⟩
    · exact ⟨o', ho', h'.guard, h'.out.mono fun _ _ h => h.out⟩⟩⟩
theorem aa_three (i j k : Nat) (hr : Region.ready .any ops ls = [i, j, k]) (ho : ops[i]? = some o) (ho' : ops[j]? = some o') (ho'' : ops[k]? = some o'') (h : SE P W o a L (Nxt P ops Q W f ls a i o)) (h' : SE P W o' a L (Nxt P ops Q W f ls a j o'))
    (h'' : SE P W o'' a L (Nxt P ops Q W f ls a k o'')) : AA P ops Q W (f + 1) ls a L :=
  ⟨⟨fun h0 => (by rw [hr] at h0; cases h0), fun x hx => by
    rw [hr] at hx
    simp only [List.mem_cons, List.not_mem_nil, or_false] at hx
    rcases hx with rfl | rfl | rfl
    · exact ⟨o, ho, h.guard, h.out.mono fun _ _ h => h.out⟩
    · exact ⟨o', ho', h'.guard, h'.out.mono fun _ _ h => h.out⟩
    · exact ⟨o'', ho'', h''.guard, h''.out.mono fun _ _ h => h.out⟩⟩⟩
end
section
variable {P : Program} {W : World} {L L' : List Ent} {a : Act} {K : Value → List Ent → Prop} {d : Tmp} {dq : Option Tmp} {t t' ty : TypeId} {ps : String} {af : Array Edge} {x y : Operand} {g g' c c' c'' : _} {op : Op} {v : Value} {z : Nat}
theorem sub_nil (L : List Ent) : Sub [] L := ⟨List.nil_sublist L⟩
theorem se_value (hv : ∀ w, (execOp a.eval ⟨dq, op, ty, ps, af, none⟩).run P w = .ok (.value v) w) (h : K v L) : SE P W ⟨dq, op, ty, ps, af, none⟩ a L K :=
  ⟨rfl, fun u => by rw [hv]; exact ⟨L, sub_nil _, ⟨u, rfl⟩, h⟩⟩
theorem se_load {g o : Nat} {c c' : Array Value} (hx : a.eval x = .pointer (some ⟨g, o, none⟩)) (hp : Has L g c t') (hq : Part P t c o c') (h : K (.agg c') L) : SE P W ⟨some d, .load t x, ty, ps, af, none⟩ a L K := by
  refine ⟨rfl, fun u => ?_⟩
  unfold execOp
  simp only [hx, Sem.run_bind, run_loadAt_part u hp hq, Result.andThen_ok, Sem.run_pure]
  exact ⟨L, sub_nil _, ⟨u, rfl⟩, h⟩
theorem se_cell {g o : Nat} {c : Array Value} (hx : a.eval x = .pointer (some ⟨g, o, none⟩)) (hp : Has L g c t') (hq : CellV P t c o v) (h : K v L) : SE P W ⟨some d, .load t x, ty, ps, af, none⟩ a L K := by
  refine ⟨rfl, fun u => ?_⟩
  unfold execOp
  simp only [hx, Sem.run_bind, run_loadAt_cell u hp hq, Result.andThen_ok, Sem.run_pure]
  exact ⟨L, sub_nil _, ⟨u, rfl⟩, h⟩
theorem se_store {g o : Nat} {c c' c'' : Array Value} (hx : a.eval x = .pointer (some ⟨g, o, none⟩)) (hy : a.eval y = .agg c') (hp : Has L g c t') (hq : PutP P t c o c' c'') (hL : PutAll L g c'' c L')
    (h : K undef L') : SE P W ⟨none, .store t x y, ty, ps, af, none⟩ a L K := by
  refine ⟨rfl, fun u => ?_⟩
  obtain ⟨u', hu'⟩ := ex_part u hp hq hL
  unfold execOp
  simp only [hx, hy, Instr.storeAt, Instr.sureAddr, Sem.run_bind, Sem.run_pure, Result.andThen_ok, hu']
  exact ⟨L', sub_nil _, ⟨u', rfl⟩, h⟩
theorem se_put {g o : Nat} {c c' : Array Value} (hx : a.eval x = .pointer (some ⟨g, o, none⟩)) (hy : a.eval y = v) (hp : Has L g c t') (hq : PutV P t c o v c') (hL : PutAll L g c' c L')
    (h : K undef L') : SE P W ⟨none, .store t x y, ty, ps, af, none⟩ a L K := by
  refine ⟨rfl, fun u => ?_⟩
  obtain ⟨u', hu'⟩ := ex_put u hp hq hL
  unfold execOp
  simp only [hx, hy, Instr.storeAt, Instr.sureAddr, Sem.run_bind, Sem.run_pure, Result.andThen_ok, hu']
  exact ⟨L', sub_nil _, ⟨u', rfl⟩, h⟩
end
end KM

/- Function values, for any program: a captured variable of one cell, a closure called in a region that draws its order. -/
namespace KM
open Go Go.RowKit
section
variable {P : Program} {ops : Array Oper} {Q : Exit → Act → World → Prop} {rest : List Oper} {a : Act} {W : World} {L Lc : List Ent} {u : KW W L} {d : Tmp} {t ty : TypeId} {ps : String} {af : Array Edge} {x : Operand} {v : Value}
/-- a variable of one cell, laid with its value -/
theorem ls_box1 (hx : a.eval x = v) (hv : v.cells = #[v])
    (h : ∀ (g : Nat) (u' : KW W (⟨g, #[v], t⟩ :: L)), wpList P ops Q rest (a.put (some d) (.pointer (some ⟨g, 0, none⟩))) u'.w) :
    wpList P ops Q (⟨some d, .box t x, ty, ps, af, none⟩ :: rest) a u.w := by
  refine wpList_plain rfl fun K hK => ?_
  unfold Oper.wp execOp
  have hr : (Instr.box t (a.eval x)).run P u.w = .ok (.pointer (some ⟨u.w.heap.size, 0, none⟩)) (u.alloc #[v] t).w := by
    rw [hx]
    unfold Value.cells at hv
    simp [Instr.box, newVar, newRow, hv, KW.alloc, go_sem]
  simp only [Sem.run_bind, hr, Result.andThen_ok, Sem.run_pure]
  exact hK _ _ (h _ (u.alloc #[v] t))
end
section
variable {P : Program} {Q : Exit → Act → World → Prop} {r : List St} {a : Act} {W : World} {L Lc : List Ent} {dq : Option Tmp} {ty : TypeId} {ps : String} {af : Array Edge} {v : Value} {f : FuncId} {xs : Array Operand} {ts : Array TypeId} {args : Array Value} {x : Operand}
/-- a function value called, wherever the blocks of Lc are known -/
theorem mm_callv (he : ∀ w, (execOp a.eval ⟨dq, .call ⟨.value x, xs, ts⟩, ty, ps, af, none⟩).run P w = .ok (.enter f args) w) (hc : ∀ L, Sub Lc L → ∀ u : KW W L, Calls P f args u.w (Ret v u.w)) (h : MM P Q W Lc r (a.put dq v) L) :
    MM P Q W Lc (.take ⟨dq, .call ⟨.value x, xs, ts⟩, ty, ps, af, none⟩ :: r) a L := by
  refine ⟨rfl, v, fun L hL u => ?_, h.out⟩
  rw [he]
  refine (hc _ hL u).mono fun e w' ⟨h1, hb⟩ => ?_
  obtain ⟨u', hu'⟩ := u.go hb
  exact ⟨v, L, h1, hL, ⟨u', hu'⟩, rfl, rfl⟩
end
/-- what is known of Lc is known of what holds it -/
theorem Has.of_sub {Lc L : List Ent} (h : Sub Lc L) {g : Nat} {c : Array Value} {t : TypeId} (hp : Has Lc g c t) : Has L g c t := ⟨h.out.subset hp.out⟩
/-- in world W block g holds c -/
class Old (W : World) (g : Nat) (c : outParam (Array Value)) (t : outParam TypeId) : Prop where
  out : W.heap[g]? = some (.cells c t (0, 0))
theorem KW.old {W : World} {L : List Ent} (u : KW W L) {g : Nat} {c : Array Value} {t : TypeId} (h : Old W g c t) : u.w.heap[g]? = some (.cells c t (0, 0)) :=
  (u.below.block g (Array.getElem?_eq_some_iff.1 h.out).1).trans h.out
theorem run_loadAt_old {P : Program} {w : World} {g o : Nat} {c : Array Value} {t t' : TypeId} {v : Value} (hp : w.heap[g]? = some (.cells c t' (0, 0))) (hq : CellV P t c o v) :
    (Instr.loadAt t (.pointer (some ⟨g, o, none⟩))).run P w = .ok v w := by
  have hc : w.cell? ⟨g, o, none⟩ = some v := by rw [cell_of_row _ _ _ _ _ _ hp, hq.at_]
  have h := hq.scal.out
  simp only [Instr.loadAt, Instr.sureAddr, Sem.run_bind, Sem.run_pure, Result.andThen_ok]
  unfold loadVar isAgg
  cases hu : P.underlying t with
  | none => rw [hu] at h; cases h
  | some d =>
    rw [hu] at h
    simp only [Sem.run_bind, run_underlying hu, Result.andThen_ok]
    cases d <;> first | (cases h; done) | simp [hc]
/-- a cell of a block that was there -/
theorem ls_old {P : Program} {ops : Array Oper} {rest : List Oper} {a : Act} {W : World} {L : List Ent} {u : KW W L} {Q : Exit → Act → World → Prop} {ty : TypeId} {ps : String} {af : Array Edge} {d : Tmp} {t t' : TypeId} {x : Operand} {v : Value} {g o : Nat} {c : Array Value}
    (hx : a.eval x = .pointer (some ⟨g, o, none⟩)) (hp : Old W g c t') (hq : CellV P t c o v)
    (h : wpList P ops Q rest (a.put (some d) v) u.w) : wpList P ops Q (⟨some d, .load t x, ty, ps, af, none⟩ :: rest) a u.w := by
  refine wpList_plain rfl fun K hK => ?_
  unfold Oper.wp execOp
  simp only [hx, Sem.run_bind, run_loadAt_old (u.old hp) hq, Result.andThen_ok, Sem.run_pure]
  exact hK _ _ h
end KM

/- Arguments handed in as data, opened piece by piece, for any program. -/
namespace KM
open Go Go.RowKit Go.WideShapes Go.ChangeShapes
section
variable {P : Program} {H : Type} {enc : TypeId × Value → H} {w : World} {base : Nat} {sp : Nat → Bool} {held : Bool}
/-- the cells of l as type t can be read as data -/
def Read (P : Program) (enc : TypeId × Value → H) (w : World) (base : Nat) (sp : Nat → Bool) (held : Bool) (t : TypeId) (l : List Value) : Prop := ∃ n x, DataW.trod enc P w base sp held n t l = some x
theorem read_int {t : TypeId} {l : List Value} {k : IntKind} (ht : P.underlying t = some (.int k)) (h : Read P enc w base sp held t l) : ∃ z, l = [.int k z] ∧ (Lit.int k z).wf = true := by
  obtain ⟨n, x, h⟩ := h
  obtain ⟨z, h1, _, h2⟩ := DataW.trod_int ht h
  exact ⟨z, h1, h2⟩
theorem read_i64 {t : TypeId} {l : List Value} (ht : P.underlying t = some (.int .i64)) (h : Read P enc w base sp held t l) : ∃ z : Int, (-9223372036854775808 ≤ z ∧ z ≤ 9223372036854775807) ∧ l = [.int .i64 z] := by
  obtain ⟨z, h1, h2⟩ := read_int ht h
  exact ⟨z, bounds_i64 h2, h1⟩
theorem read_bool {t : TypeId} {l : List Value} (ht : P.underlying t = some .bool) (h : Read P enc w base sp held t l) : ∃ b, l = [.bool b] := by
  obtain ⟨n, x, h⟩ := h
  obtain ⟨z, h1, _⟩ := DataW.trod_bool ht h
  exact ⟨z, h1⟩
theorem read_struct {t : TypeId} {l : List Value} (spec : List (TypeId × Nat × Nat)) (N : Nat) (hu : P.underlying t = some (.struct (P.fieldsOf t))) (hF : (P.fieldsOf t).toList.map (fun f => (f.type, f.offset, P.cellsOf f.type)) = spec) (hN : P.cellsOf t = N)
    (h : Read P enc w base sp held t l) : l.length = N ∧ ∀ (i : Nat) (tf : TypeId) (o k : Nat), spec[i]? = some (tf, o, k) → Read P enc w base sp held tf ((l.drop o).take k) := by
  obtain ⟨n, x, h⟩ := h
  obtain ⟨xs, m, _, _, hl, hx, hi⟩ := DataW.trod_struct hu h
  refine ⟨by rw [hl, hN], fun i tf o k hs => ?_⟩
  rw [← hF, List.getElem?_map] at hs
  obtain ⟨f, hf, he⟩ := Option.map_eq_some_iff.1 hs
  simp only [Prod.mk.injEq] at he
  obtain ⟨rfl, rfl, rfl⟩ := he
  have hf' : (P.fieldsOf t)[i]? = some f := by simpa using hf
  have hlt : i < xs.length := by rw [hx]; exact (Array.getElem?_eq_some_iff.1 hf').1
  exact ⟨m, xs[i], by rw [hi i f hf', List.getElem?_eq_getElem hlt]⟩
theorem read_array {t e : TypeId} {n k : Nat} {l : List Value} (ht : P.underlying t = some (.array n e)) (hk : P.cellsOf e = k) (N : Nat) (hN : P.cellsOf t = N) (h : Read P enc w base sp held t l) :
    l.length = N ∧ ∀ i, i < n → Read P enc w base sp held e ((l.drop (i * k)).take k) := by
  obtain ⟨m, x, h⟩ := h
  obtain ⟨xs, m, _, _, hl, hx, hi⟩ := DataW.trod_array ht h
  refine ⟨by rw [hl, hN], fun i hlt => ?_⟩
  have hlt' : i < xs.length := by omega
  exact ⟨m, xs[i], by rw [← hk, hi i hlt, List.getElem?_eq_getElem hlt']⟩
theorem read_of {t : TypeId} {v : Value} {d : DataW H} {p : List MemPlace} (h : DataW.Trod enc P w base sp held t v d p) : Read P enc w base sp held t v.cells.toList := by
  obtain ⟨n, h⟩ := h
  exact ⟨n, _, h⟩
end
/-- l, from o on, is made of these pieces -/
def Pieces (l : List Value) : Nat → List (Nat × List Value) → Prop
  | o, [] => l.length = o
  | o, (k, p) :: r => (l.drop o).take k = p ∧ Pieces l (o + k) r
theorem glue {l : List Value} : ∀ (ps : List (Nat × List Value)) (o : Nat), Pieces l o ps → l.drop o = (ps.map (·.2)).flatten
  | [], o, h => by rw [List.drop_eq_nil_of_le (by have : l.length = o := h; omega)]; rfl
  | (k, p) :: r, o, ⟨h1, h2⟩ => by
    have := glue r (o + k) h2
    rw [List.map_cons, List.flatten_cons, ← this, ← h1, ← List.drop_drop, List.take_append_drop]
theorem glue0 {l : List Value} {c : Array Value} (ps : List (Nat × List Value)) (h : Pieces l 0 ps) (he : (ps.map (·.2)).flatten = c.toList) : l = c.toList := by
  rw [← he, ← glue ps 0 h, List.drop_zero]
theorem okWide_row {P : Program} {w : World} {r : Reach} {base : Nat} {t : TypeId} {v : Value} (ht : (match P.underlying t with | some (.struct _) => true | some (.array _ _) => true | _ => false) = true) (h : Value.okWide P w r base t v) : ∃ cs, v = .agg cs := by
  unfold Value.okWide at h
  cases hu : P.underlying t with
  | none => rw [hu] at ht; cases ht
  | some d =>
    rw [hu] at ht h
    cases d <;> first | (cases ht; done) | skip
    · obtain ⟨cs, h1, _⟩ := h; exact ⟨cs, h1⟩
    · obtain ⟨cs, h1, _⟩ := h; exact ⟨cs, h1⟩
/-- an argument that is a struct or an array, by its cells -/
theorem open_row {P : Program} {H : Type} {enc : TypeId × Value → H} {w : World} {b0 base : Nat} {sp : Nat → Bool} {held : Bool} {r : Reach} {t : TypeId} {v : Value} {d : DataW H} {p : List MemPlace}
    (ht : (match P.underlying t with | some (.struct _) => true | some (.array _ _) => true | _ => false) = true) (hv : Value.okWide P w r b0 t v) (h : DataW.Trod enc P w base sp held t v d p) : ∃ cs : Array Value, v = .agg cs ∧ Read P enc w base sp held t cs.toList := by
  obtain ⟨cs, rfl⟩ := okWide_row ht hv
  exact ⟨cs, rfl, read_of h⟩
end KM

/- A law's last step, for any program: what the arguments read as is the same behind a call that turned nothing below the heap's old size. -/
namespace SnClose
open Go Go.RowKit Go.ChangeShapes
variable {H : Type} {enc : TypeId × Value → H} {P : Program}
theorem trodAll_later (hl : laidOutB P = true) {W W' : World} (hb : Below W.heap.size W W') : ∀ (ts : List TypeId) (vs : List Value) (ds : List (DataW H)) (ps : List MemPlace),
    (∀ t ∈ ts, P.readableRec t = true ∧ t < P.types.size) → DataW.TrodAll enc P W 0 (fun _ => true) true ts vs ds ps → (∀ x ∈ ps, x.block < W.heap.size) →
    DataW.TrodAll enc P W' 0 (fun b => decide (b < W.heap.size)) true ts vs ds ps := by
  intro ts
  induction ts with
  | nil =>
    intro vs ds ps _ h _
    obtain ⟨rfl, rfl, rfl⟩ := trodAll_nil h
    exact rfl
  | cons t ts ih =>
    intro vs ds ps hts h hlt
    cases vs with
    | nil => exact absurd h (by simp [DataW.TrodAll])
    | cons v vs =>
      cases ds with
      | nil => exact absurd h (by simp [DataW.TrodAll])
      | cons d ds =>
        obtain ⟨p, q, h1, h2, rfl⟩ := h
        have ht := hts t (List.mem_cons_self ..)
        exact ⟨p, q, Below.trod hl ht.1 ht.2 h1 hb (fun x hx => hlt x (List.mem_append_left _ hx)),
          ih vs ds q (fun u hu => hts u (List.mem_cons_of_mem _ hu)) h2 (fun x hx => hlt x (List.mem_append_right _ hx)), rfl⟩
/-- the law returned true and turned nothing that was there: what the row asks behind the call -/
theorem law_post {f : Func} {s : ChangeSpec} {tb : TypeId} {W W' : World} {args : Array Value} {ds gs : List (DataW H)} {before : List MemPlace}
    (hl : laidOutB P = true) (hts : (f.params.toList.all fun t => P.readableRec t && decide (t < P.types.size)) = true) (hres : f.resultTypes = #[tb]) (htb : P.underlying tb = some .bool) (hvars : s.vars = [])
    (hspec : (s.fn H (ds ++ gs)).results = [.lit (.bool true)] ∧ (s.fn H (ds ++ gs)).args = ds ∧ (s.fn H (ds ++ gs)).vars = [])
    (hW : DataW.Whole enc P f.params.toList s.vars false W args.toList ds gs before) (hb : Below W.heap.size W W') :
    s.post enc P f false true false false W args (.bool true) W' := by
  have hlt : ∀ x ∈ before, x.block < W.heap.size := fun x hx => hW.lt x hx
  have hW' := hW
  obtain ⟨p, q, hA, hV, hpq, _, _⟩ := hW
  rw [hvars] at hV
  obtain ⟨rfl, rfl⟩ := trodVars_none hV
  rw [List.append_nil] at hpq
  subst hpq
  refine ⟨ds, [], before, [], before, [], hW', ?_, ?_, ?_, hb.frame _, fun h => by cases h⟩
  · rw [hspec.1, hres]
    exact trodAll_mk1 (shut_bool htb _)
  · rw [hspec.2.1]
    refine trodAll_later hl hb _ _ _ _ (fun t ht => ?_) hA hlt
    have := List.all_eq_true.1 hts t ht
    rw [Bool.and_eq_true, decide_eq_true_eq] at this
    exact this
  · rw [hspec.2.2, hvars]; exact rfl
/-- of a list of listed variables the rest holds as well -/
theorem laid_rest {x : String × DataW Unit} {rest : List (String × DataW Unit)} {w : World} (h : laidMet P (x :: rest) w) : laidMet P rest w := by
  obtain ⟨ps, ⟨g, t, cs, fuel, p, q, h1, h2, h3, h4, h5, rfl⟩, hn, hc⟩ := h
  exact ⟨q, h5, (List.nodup_append.1 hn).2.1, fun b off hm => hc b off (List.mem_append_right _ hm)⟩
/-- an array of integers that is handed in by value -/
theorem open_arr_int {w : World} {base b0 : Nat} {sp : Nat → Bool} {held : Bool} {r : Reach} {t e : TypeId} {n : Nat} {k : IntKind} {v : Value} {d : DataW H} {p : List MemPlace}
    (ht : P.underlying t = some (.array n e)) (he : P.underlying e = some (.int k)) (hce : P.cellsOf e = 1) (hct : P.cellsOf t = n)
    (hv : Value.okWide P w r b0 t v) (h : DataW.Trod enc P w base sp held t v d p) :
    ∃ zs : List Int, v = .agg (zs.map (Value.int k)).toArray ∧ zs.length = n ∧ ∀ z ∈ zs, (Lit.int k z).wf = true := by
  unfold Value.okWide at hv
  rw [ht] at hv
  obtain ⟨cs, rfl, hsz, _⟩ := hv
  rw [hct] at hsz
  obtain ⟨fuel, hf⟩ := h
  obtain ⟨xs, m, _, _, _, hxl, hx⟩ := DataW.trod_array ht hf
  have hcs : (Value.agg cs).cells.toList = cs.toList := rfl
  rw [hcs, hce] at hx
  have each : ∀ i, i < n → ∃ z, cs[i]? = some (.int k z) ∧ (Lit.int k z).wf = true := by
    intro i hi
    have h1 := hx i hi
    have h2 : xs[i]? = some (xs[i]'(by omega)) := List.getElem?_eq_getElem _
    rw [h2] at h1
    obtain ⟨z, hc, _, hw⟩ := DataW.trod_int he h1
    refine ⟨z, ?_, hw⟩
    have := congrArg (·[0]?) hc
    simpa [List.getElem?_take, List.getElem?_drop] using this
  refine ⟨(List.range n).map fun i => intOf (cs[i]?.getD .nilIface), ?_, by simp, ?_⟩
  · congr 1
    apply Array.toList_inj.1
    apply List.ext_getElem?
    intro i
    by_cases hi : i < n
    · obtain ⟨z, hz, _⟩ := each i hi
      simp [hi, hz, intOf]
    · simp [hi]; omega
  · intro z hz
    obtain ⟨i, hi, rfl⟩ := List.mem_map.1 hz
    rw [List.mem_range] at hi
    obtain ⟨z, hz, hw⟩ := each i hi
    rw [hz]; exact hw
theorem two_of {zs : List Int} (h : zs.length = 2) : ∃ a b, zs = [a, b] := by
  match zs, h with
  | [a, b], _ => exact ⟨a, b, rfl⟩
theorem u8_of {n : Int} (h : (Lit.int .u8 n).wf = true) : ∃ c : UInt8, n = c.toNat := by
  have := bounds_u8 h
  exact ⟨UInt8.ofNat n.toNat, by rw [UInt8.toNat_ofNat']; omega⟩
theorem u64_of {n : Int} (h : (Lit.int .u64 n).wf = true) : ∃ c : Nat, n = (c : Int) ∧ c < 18446744073709551616 := by
  simp [Lit.wf, IntKind.min, IntKind.max, IntKind.signed, IntKind.bits] at h
  exact ⟨n.toNat, by omega, by omega⟩
end SnClose

/- Slices of structs, for any program: a slice that is built, as a block of known cells. -/
namespace KM
open Go Go.RowKit
/-- the cells of a slice that is built of these parts -/
def builtS (P : Program) (t : TypeId) (n : Nat) (ps : List (Nat × Value)) : Option (TypeId × Array Value) :=
  match P.underlying t with
  | some (.slice e) => match P.info? e with
    | some ie => match ie.zero with
      | some z => if n * ie.size > 2 ^ 24 then none else if n * ie.size = 0 then none else
          (Instr.fill (fun i => some (i * ie.size, ie.size)) ((Array.range (n * ie.size)).map (z.cells[· % z.cells.size]!)) ps).map fun c => (e, c)
      | none => none
    | none => none
  | _ => none
class SliceB (P : Program) (t : TypeId) (n : Nat) (ps : List (Nat × Value)) (e : outParam TypeId) (c : outParam (Array Value)) : Prop where
  out : builtS P t n ps = some (e, c)
theorem run_slice {P : Program} {t e : TypeId} {n : Nat} {ps : Array (Nat × Value)} {c : Array Value} (h : builtS P t n ps.toList = some (e, c)) (w : World) :
    (Instr.buildSlice t n ps).run P w = .ok (.slice (some ⟨w.heap.size, 0, none⟩) n n) (w.alloc (.cells c e)) := by
  unfold builtS at h
  cases hu : P.underlying t with
  | none => rw [hu] at h; cases h
  | some dd =>
    rw [hu] at h
    cases dd with
    | slice e' =>
      cases hi : P.info? e' with
      | none => simp only [hi] at h; cases h
      | some ie =>
        simp only [hi] at h
        cases hz : ie.zero with
        | none => simp only [hz] at h; cases h
        | some z =>
          simp only [hz] at h
          split at h
          · cases h
          · rename_i h1
            split at h
            · cases h
            · rename_i h2
              obtain ⟨c', h3, h4⟩ := Option.map_eq_some_iff.1 h
              obtain ⟨rfl, rfl⟩ := Prod.mk.inj h4
              exact run_buildSlice w t e' n ps c' ie z hu hi hz h1 h2 h3
    | _ => cases h
/-- a round's end: blocks that are not told of any more -/
theorem ex_weak {W : World} {L Lc : List Ent} {u : KW W L} {A B : Prop} (hs : Sub Lc L) (a : A) (b : B) : ∃ v : KW W Lc, A ∧ u.w = v.w ∧ B :=
  let ⟨v, e⟩ := KW.weak (h := hs) u
  ⟨v, a, e, b⟩
section
variable {P : Program} {ops : Array Oper} {Q : Exit → Act → World → Prop} {rest : List Oper} {a : Act} {W : World} {L : List Ent} {u : KW W L} {w : World}
  {d : Tmp} {t ty e : TypeId} {ps : String} {af : Array Edge} {n : Nat} {xs : Array (Nat × Operand)} {c : Array Value}
theorem ck_slice (h : wpList P ops Q (⟨some d, .buildSlice t n xs, ty, ps, af, none⟩ :: rest) a w) : wpList P ops Q (⟨some d, .buildSlice t n xs, ty, ps, af, none⟩ :: rest) a w := h
theorem ls_slice {vs : List (Nat × Value)} (hv : (xs.map fun (i, x) => (i, a.eval x)).toList = vs) (hb : SliceB P t n vs e c) (h : ∀ (g : Nat) (u' : KW W (⟨g, c, e⟩ :: L)), wpList P ops Q rest (a.put (some d) (.slice (some ⟨g, 0, none⟩) n n)) u'.w) :
    wpList P ops Q (⟨some d, .buildSlice t n xs, ty, ps, af, none⟩ :: rest) a u.w := by
  refine wpList_plain rfl fun K hK => ?_
  unfold Oper.wp execOp
  have hr : (Instr.buildSlice t n (xs.map fun (i, x) => (i, a.eval x))).run P u.w = .ok (.slice (some ⟨u.w.heap.size, 0, none⟩) n n) (u.alloc c e).w := run_slice (by rw [hv]; exact hb.out) u.w
  simp only [Sem.run_bind, hr, Result.andThen_ok, Sem.run_pure]
  exact hK _ _ (h _ (u.alloc c e))
theorem ls_slice1 {x0 : Operand} {c0 : Array Value} (h0 : a.eval x0 = .agg c0) (hb : SliceB P t n [(0, .agg c0)] e c)
    (h : ∀ (g : Nat) (u' : KW W (⟨g, c, e⟩ :: L)), wpList P ops Q rest (a.put (some d) (.slice (some ⟨g, 0, none⟩) n n)) u'.w) :
    wpList P ops Q (⟨some d, .buildSlice t n #[(0, x0)], ty, ps, af, none⟩ :: rest) a u.w :=
  ls_slice (by simp only [List.map_toArray, List.map_cons, List.map_nil, h0]) hb h
theorem ls_slice2 {x0 x1 : Operand} {c0 c1 : Array Value} (h0 : a.eval x0 = .agg c0) (h1 : a.eval x1 = .agg c1) (hb : SliceB P t n [(0, .agg c0), (1, .agg c1)] e c)
    (h : ∀ (g : Nat) (u' : KW W (⟨g, c, e⟩ :: L)), wpList P ops Q rest (a.put (some d) (.slice (some ⟨g, 0, none⟩) n n)) u'.w) :
    wpList P ops Q (⟨some d, .buildSlice t n #[(0, x0), (1, x1)], ty, ps, af, none⟩ :: rest) a u.w :=
  ls_slice (by simp only [List.map_toArray, List.map_cons, List.map_nil, h0, h1]) hb h
theorem ls_slice3 {x0 x1 x2 : Operand} {c0 c1 c2 : Array Value} (h0 : a.eval x0 = .agg c0) (h1 : a.eval x1 = .agg c1) (h2 : a.eval x2 = .agg c2) (hb : SliceB P t n [(0, .agg c0), (1, .agg c1), (2, .agg c2)] e c)
    (h : ∀ (g : Nat) (u' : KW W (⟨g, c, e⟩ :: L)), wpList P ops Q rest (a.put (some d) (.slice (some ⟨g, 0, none⟩) n n)) u'.w) :
    wpList P ops Q (⟨some d, .buildSlice t n #[(0, x0), (1, x1), (2, x2)], ty, ps, af, none⟩ :: rest) a u.w :=
  ls_slice (by simp only [List.map_toArray, List.map_cons, List.map_nil, h0, h1, h2]) hb h
theorem ls_slice4 {x0 x1 x2 x3 : Operand} {c0 c1 c2 c3 : Array Value} (h0 : a.eval x0 = .agg c0) (h1 : a.eval x1 = .agg c1) (h2 : a.eval x2 = .agg c2) (h3 : a.eval x3 = .agg c3) (hb : SliceB P t n [(0, .agg c0), (1, .agg c1), (2, .agg c2), (3, .agg c3)] e c)
    (h : ∀ (g : Nat) (u' : KW W (⟨g, c, e⟩ :: L)), wpList P ops Q rest (a.put (some d) (.slice (some ⟨g, 0, none⟩) n n)) u'.w) :
    wpList P ops Q (⟨some d, .buildSlice t n #[(0, x0), (1, x1), (2, x2), (3, x3)], ty, ps, af, none⟩ :: rest) a u.w :=
  ls_slice (by simp only [List.map_toArray, List.map_cons, List.map_nil, h0, h1, h2, h3]) hb h
end
end KM

