/-
  Memory by whole blocks, for any program: a world that a call has reached since world W, whose new blocks of known contents are told by its type. Laws of the walk on aggregates (arrays, structs) by value, and one for regions that draw their order and end in a fixed tail.
-/
import Derived.WalkKit
import Derived.BigQuiet
import Derived.StillTail
import Derived.Laws.Rows
import Derived.Laws.ResultCell
import Derived.Lib.Hide
namespace KM
open Go Go.RowKit
structure Ent where
  g : Nat
  c : Array Value
  t : TypeId
/-- a world reached since W; L: blocks that are new since W, and what they hold -/
structure KW (W : World) (L : List Ent) where
  w : World
  below : Below W.heap.size W w
  mem : ∀ e ∈ L, w.heap[e.g]? = some (.cells e.c e.t (0, 0)) ∧ W.heap.size ≤ e.g
  nodup : (L.map Ent.g).Nodup
/-- in L block g holds c -/
class Has (L : List Ent) (g : Nat) (c : outParam (Array Value)) (t : outParam TypeId) : Prop where
  out : (⟨g, c, t⟩ : Ent) ∈ L
instance Has.head {g c t L} : Has (⟨g, c, t⟩ :: L) g c t := ⟨List.mem_cons_self ..⟩
instance Has.tail {e g c t L} [h : Has L g c t] : Has (e :: L) g c t := ⟨List.mem_cons_of_mem _ h.out⟩
/-- L' is L, but block g holds c' -/
class PutAll (L : List Ent) (g : Nat) (c' : Array Value) (c : outParam (Array Value)) (L' : outParam (List Ent)) : Prop where
  out : ∃ A t B, L = A ++ ⟨g, c, t⟩ :: B ∧ L' = A ++ ⟨g, c', t⟩ :: B
instance PutAll.head {g c c' t L} : PutAll (⟨g, c, t⟩ :: L) g c' c (⟨g, c', t⟩ :: L) := ⟨[], t, L, rfl, rfl⟩
instance PutAll.tail {e g c c' L L'} [h : PutAll L g c' c L'] : PutAll (e :: L) g c' c (e :: L') := ⟨by
  obtain ⟨A, t, B, h1, h2⟩ := h.out
  exact ⟨e :: A, t, B, by rw [h1]; rfl, by rw [h2]; rfl⟩⟩
/-- L' is L, but cell j of block g holds v -/
class PutAt (L : List Ent) (g : Nat) (j : Nat) (v : Value) (c : outParam (Array Value)) (L' : outParam (List Ent)) : Prop where
  out : ∃ A t B, L = A ++ ⟨g, c, t⟩ :: B ∧ L' = A ++ ⟨g, c.setIfInBounds j v, t⟩ :: B
instance PutAt.head {g c j v t L} : PutAt (⟨g, c, t⟩ :: L) g j v c (⟨g, c.setIfInBounds j v, t⟩ :: L) := ⟨[], t, L, rfl, rfl⟩
instance PutAt.tail {e g c j v L L'} [h : PutAt L g j v c L'] : PutAt (e :: L) g j v c (e :: L') := ⟨by
  obtain ⟨A, t, B, h1, h2⟩ := h.out
  exact ⟨e :: A, t, B, by rw [h1]; rfl, by rw [h2]; rfl⟩⟩
/-- a type of rows of n cells -/
def Row (P : Program) (ty : TypeId) (n : Nat) : Prop :=
  (match P.underlying ty with | some (.struct _) => true | some (.array _ _) => true | _ => false) = true ∧ (P.info? ty).map (·.size) = some n
/-- a type's zero value, as cells -/
def Zero (P : Program) (ty : TypeId) (c : Array Value) : Prop := (P.info? ty).map (fun i => i.zero.map Value.cells) = some (some c)

section
variable {W : World} {L L' : List Ent}
theorem KW.block (u : KW W L) {g c t} [h : Has L g c t] : u.w.heap[g]? = some (.cells c t (0, 0)) := (u.mem _ h.out).1
theorem KW.new (u : KW W L) {g c t} [h : Has L g c t] : W.heap.size ≤ g := (u.mem _ h.out).2
theorem KW.lt (u : KW W L) {g c t} [h : Has L g c t] : g < u.w.heap.size := (Array.getElem?_eq_some_iff.1 (u.block (h := h))).1
@[simp] theorem KW.cell? (u : KW W L) {g c t} [h : Has L g c t] (j : Nat) : u.w.cell? ⟨g, j, none⟩ = c[j]? := cell_of_row _ _ _ _ _ _ (u.block (h := h))
@[simp] theorem KW.frozen? (u : KW W L) {g c t} [h : Has L g c t] (j : Nat) : u.w.frozen? ⟨g, j, none⟩ = false := frozen_of_row _ _ _ _ _ (u.block (h := h))
def KW.start (W : World) : KW W [] := ⟨W, Below.refl _ _, (fun _ h => by cases h), List.nodup_nil⟩
theorem KW.begin (W : World) : ∃ u : KW W [], W = u.w := ⟨KW.start W, rfl⟩
theorem KW.lt_of_mem (u : KW W L) (e : Ent) (he : e ∈ L) : e.g < u.w.heap.size := (Array.getElem?_eq_some_iff.1 (u.mem e he).1).1
theorem KW.size (u : KW W L) : W.heap.size ≤ u.w.heap.size := u.below.size
/-- behind a call that turned nothing that was there -/
def KW.later (u : KW W L) {w' : World} (h : Below u.w.heap.size u.w w') : KW W L :=
  ⟨w', u.below.trans (h.mono u.size), fun e he => ⟨(h.block e.g (u.lt_of_mem e he)).trans (u.mem e he).1, (u.mem e he).2⟩, u.nodup⟩
theorem KW.go (u : KW W L) {w' : World} (h : Below u.w.heap.size u.w w') : ∃ u' : KW W L, w' = u'.w := ⟨u.later h, rfl⟩
def KW.drew (u : KW W L) : KW W L := u.later (Below.drew (Below.refl _ _))
theorem KW.drew_w (u : KW W L) : u.drew.w = { u.w with drawn := u.w.drawn + 1 } := rfl
def KW.alloc (u : KW W L) (c : Array Value) (t : TypeId) : KW W (⟨u.w.heap.size, c, t⟩ :: L) :=
  ⟨u.w.alloc (.cells c t), u.below.alloc u.size _, fun e he => by
    rcases List.mem_cons.1 he with rfl | he
    · exact ⟨heap_alloc_new _ _, u.size⟩
    · exact ⟨(Below.heap_alloc _ _ _ (u.lt_of_mem e he)).trans (u.mem e he).1, (u.mem e he).2⟩, by
    simp only [List.map_cons, List.nodup_cons]
    refine ⟨fun h => ?_, u.nodup⟩
    obtain ⟨e, he, h1⟩ := List.mem_map.1 h
    have := u.lt_of_mem e he
    omega⟩
theorem nodup_ne {A B : List Ent} {x e : Ent} (h : ((A ++ x :: B).map Ent.g).Nodup) (he : e ∈ A ++ B) : e.g ≠ x.g := by
  rw [List.map_append, List.map_cons] at h
  have h1 := (List.nodup_append.1 h)
  have h2 := (List.nodup_cons.1 h1.2.1).1
  rcases List.mem_append.1 he with he | he
  · exact h1.2.2 _ (List.mem_map_of_mem he) _ (List.mem_cons_self ..)
  · intro hc
    exact h2 (hc ▸ List.mem_map_of_mem he)
theorem KW.ex_cell (u : KW W L) {g c j v} [h : PutAt L g j v c L'] : ∃ u' : KW W L', u.w.setCell ⟨g, j, none⟩ v = u'.w := by
  obtain ⟨A, t, B, rfl, rfl⟩ := h.out
  have hx := u.mem ⟨g, c, t⟩ (by simp)
  refine ⟨⟨u.w.setCell ⟨g, j, none⟩ v, u.below.setCell hx.2 _, fun e he => ?_, by simpa using u.nodup⟩, rfl⟩
  rcases List.mem_append.1 he with he' | he'
  · have hne := nodup_ne u.nodup (List.mem_append_left B he')
    exact ⟨(heap_setCell_other _ _ _ _ hne).trans (u.mem e (List.mem_append_left _ he')).1, (u.mem e (List.mem_append_left _ he')).2⟩
  · rcases List.mem_cons.1 he' with rfl | he'
    · exact ⟨heap_setCell_same _ _ _ _ _ _ hx.1, hx.2⟩
    · have hne := nodup_ne u.nodup (List.mem_append_right A he')
      have hm : e ∈ A ++ ⟨g, c, t⟩ :: B := List.mem_append_right _ (List.mem_cons_of_mem _ he')
      exact ⟨(heap_setCell_other _ _ _ _ hne).trans (u.mem e hm).1, (u.mem e hm).2⟩
theorem KW.ex_put {g : Nat} {c c' : Array Value} {t : TypeId} {j : Nat} {v : Value} (u : KW W (⟨g, c, t⟩ :: L)) (h : c.setIfInBounds j v = c') : ∃ u' : KW W (⟨g, c', t⟩ :: L), u.w.setCell ⟨g, j, none⟩ v = u'.w := by
  subst h
  exact u.ex_cell
theorem KW.ex_put1 {e : Ent} {g : Nat} {c c' : Array Value} {t : TypeId} {j : Nat} {v : Value} (u : KW W (e :: ⟨g, c, t⟩ :: L)) (h : c.setIfInBounds j v = c') : ∃ u' : KW W (e :: ⟨g, c', t⟩ :: L), u.w.setCell ⟨g, j, none⟩ v = u'.w := by
  subst h
  exact u.ex_cell
theorem heap_setRow_other (w : World) (g k : Nat) (cs : Array Value) (h : k ≠ g) : (w.setRow g cs).heap[k]? = w.heap[k]? := by
  simp only [World.setRow, Array.getElem?_modify]
  rw [if_neg (fun e => h e.symm)]
theorem KW.ex_row (u : KW W L) {g c c'} [h : PutAll L g c' c L'] : ∃ u' : KW W L', u.w.setRow g c' = u'.w := by
  obtain ⟨A, t, B, rfl, rfl⟩ := h.out
  have hx := u.mem ⟨g, c, t⟩ (by simp)
  have hb : Below W.heap.size W (u.w.setRow g c') :=
    ⟨u.below.os, u.below.tape, u.below.output, by rw [size_setRow]; exact u.below.size, fun k hk => (heap_setRow_other _ _ _ _ (by have := hx.2; show k ≠ g; change W.heap.size ≤ g at this; omega)).trans (u.below.block k hk)⟩
  refine ⟨⟨u.w.setRow g c', hb, fun e he => ?_, by simpa using u.nodup⟩, rfl⟩
  rcases List.mem_append.1 he with he' | he'
  · have hne := nodup_ne u.nodup (List.mem_append_left B he')
    exact ⟨(heap_setRow_other _ _ _ _ hne).trans (u.mem e (List.mem_append_left _ he')).1, (u.mem e (List.mem_append_left _ he')).2⟩
  · rcases List.mem_cons.1 he' with rfl | he'
    · exact ⟨setRow_heap _ _ _ _ _ _ hx.1, hx.2⟩
    · have hne := nodup_ne u.nodup (List.mem_append_right A he')
      have hm : e ∈ A ++ ⟨g, c, t⟩ :: B := List.mem_append_right _ (List.mem_cons_of_mem _ he')
      exact ⟨(heap_setRow_other _ _ _ _ hne).trans (u.mem e hm).1, (u.mem e hm).2⟩
end

theorem enter {P : Program} {f : FuncId} {args : Array Value} {W : World} {Q : Ending → World → Prop} (h : ∀ u : KW W [], Calls P f args u.w Q) : Calls P f args W Q := h (KW.start W)
/-! ### laws of the walk -/
/-- a call that hands back v and turns nothing that was there -/
def Ret (v : Value) (w : World) (e : Ending) (w' : World) : Prop := e = .returned v ∧ Below w.heap.size w w'
section
variable {P : Program} {ops : Array Oper} {Q : Exit → Act → World → Prop} {rest : List Oper} {a : Act} {W : World} {L L' : List Ent} {u : KW W L}
  {d : Tmp} {t ty : TypeId} {ps : String} {af : Array Edge} {x y : Operand}
theorem list_box_b {c : Array Value} (hx : a.eval x = .agg c)
    (h : ∀ (g : Nat) (u' : KW W (⟨g, c, t⟩ :: L)), Below u.w.heap.size u.w u'.w → wpList P ops Q rest (a.put (some d) (.pointer (some ⟨g, 0, none⟩))) u'.w) :
    wpList P ops Q (⟨some d, .box t x, ty, ps, af, none⟩ :: rest) a u.w := by
  refine wpList_plain rfl fun K hK => ?_
  unfold Oper.wp execOp
  have hr : (Instr.box t (a.eval x)).run P u.w = .ok (.pointer (some ⟨u.w.heap.size, 0, none⟩)) (u.alloc c t).w := by
    rw [hx]; simp [Instr.box, newVar, newRow, Value.cells, KW.alloc, go_sem]
  simp only [Sem.run_bind, hr, Result.andThen_ok, Sem.run_pure]
  exact hK _ _ (h _ (u.alloc c t) ((Below.refl _ _).alloc (Nat.le_refl _) _))
theorem list_alloc_b {c : Array Value} (hz : Zero P t c)
    (h : ∀ (g : Nat) (u' : KW W (⟨g, c, t⟩ :: L)), Below u.w.heap.size u.w u'.w → wpList P ops Q rest (a.put (some d) (.pointer (some ⟨g, 0, none⟩))) u'.w) :
    wpList P ops Q (⟨some d, .alloc t, ty, ps, af, none⟩ :: rest) a u.w := by
  obtain ⟨i, hi, hz'⟩ := Option.map_eq_some_iff.1 hz
  obtain ⟨v, hv, rfl⟩ := Option.map_eq_some_iff.1 hz'
  refine wpList_plain rfl fun K hK => ?_
  unfold Oper.wp execOp
  have hr : (Instr.alloc t true (.tuple #[])).run P u.w = .ok (.pointer (some ⟨u.w.heap.size, 0, none⟩)) (u.alloc v.cells t).w := by
    simp [Instr.alloc, zeroValue, typeInfo, hi, hv, newVar, newRow, KW.alloc, go_sem]
  simp only [Sem.run_bind, hr, Result.andThen_ok, Sem.run_pure]
  exact hK _ _ (h _ (u.alloc v.cells t) ((Below.refl _ _).alloc (Nat.le_refl _) _))
theorem list_box {c : Array Value} (hx : a.eval x = .agg c) (h : ∀ (g : Nat) (u' : KW W (⟨g, c, t⟩ :: L)), wpList P ops Q rest (a.put (some d) (.pointer (some ⟨g, 0, none⟩))) u'.w) :
    wpList P ops Q (⟨some d, .box t x, ty, ps, af, none⟩ :: rest) a u.w := list_box_b hx fun g u' _ => h g u'
theorem list_alloc {c : Array Value} (hz : Zero P t c) (h : ∀ (g : Nat) (u' : KW W (⟨g, c, t⟩ :: L)), wpList P ops Q rest (a.put (some d) (.pointer (some ⟨g, 0, none⟩))) u'.w) :
    wpList P ops Q (⟨some d, .alloc t, ty, ps, af, none⟩ :: rest) a u.w := list_alloc_b hz fun g u' _ => h g u'
theorem run_row {w : World} {g : Nat} {c : Array Value} {t' : TypeId} {fr : Nat × Nat} {n : Nat} (hg : w.heap[g]? = some (.cells c t' fr)) (hr : Row P t n) (hn : c.size = n) :
    (loadVar t ⟨g, 0, none⟩).run P w = .ok (.agg c) w := by
  obtain ⟨h1, h2⟩ := hr
  cases hd : P.underlying t with
  | none => rw [hd] at h1; simp at h1
  | some de =>
    rw [hd] at h1
    cases de with
    | struct fs => exact run_loadVar_row w g t' t c fr _ hg hd rfl (by rw [hn]; exact h2)
    | array k e => exact run_loadVar_row w g t' t c fr _ hg hd rfl (by rw [hn]; exact h2)
    | _ => simp at h1
theorem run_load (u : KW W L) {g : Nat} {c : Array Value} {t' : TypeId} {n : Nat} [h : Has L g c t'] (hr : Row P t n) (hn : c.size = n) :
    (Instr.loadAt t (.pointer (some ⟨g, 0, none⟩))).run P u.w = .ok (.agg c) u.w := by
  simp only [Instr.loadAt, Instr.sureAddr, Sem.run_bind, Sem.run_pure, Result.andThen_ok]
  exact run_row (u.block (h := h)) hr hn
theorem list_load {g : Nat} {c : Array Value} {t' : TypeId} {n : Nat} (hx : a.eval x = .pointer (some ⟨g, 0, none⟩)) [Has L g c t'] (hr : Row P t n) (hn : c.size = n)
    (h : wpList P ops Q rest (a.put (some d) (.agg c)) u.w) : wpList P ops Q (⟨some d, .load t x, ty, ps, af, none⟩ :: rest) a u.w := by
  refine wpList_plain rfl fun K hK => ?_
  unfold Oper.wp execOp
  simp only [hx, Sem.run_bind, run_load u hr hn, Result.andThen_ok, Sem.run_pure]
  exact hK _ _ h
theorem list_store {g : Nat} {c c' : Array Value} {n : Nat} (hx : a.eval x = .pointer (some ⟨g, 0, none⟩)) (hy : a.eval y = .agg c') [hp : PutAll L g c' c L'] (hr : Row P t n) (hn : c.size = n) (hn' : c'.size = n)
    (h1 : c'.all (·.oneCell') = true) (h : ∀ u' : KW W L', wpList P ops Q rest a u'.w) : wpList P ops Q (⟨none, .store t x y, ty, ps, af, none⟩ :: rest) a u.w := by
  obtain ⟨u', hu'⟩ := u.ex_row (h := hp)
  obtain ⟨A, t', B, hL, _⟩ := hp.out
  have hg := (u.mem ⟨g, c, t'⟩ (by rw [hL]; simp)).1
  refine wpList_plain rfl fun K hK => ?_
  unfold Oper.wp execOp
  simp only [hx, hy, Instr.storeAt, Instr.sureAddr, Sem.run_bind, Sem.run_pure, Result.andThen_ok, run_storeVar_row u.w g t' t c c' hg (by rw [hn']; exact hr.2) (by omega) h1]
  rw [hu']
  exact hK _ _ (h u')
/-! the same, every side condition a goal: for 'with_reducible' -/
theorem lst_load {g : Nat} {c : Array Value} {t' : TypeId} {n : Nat} (hx : a.eval x = .pointer (some ⟨g, 0, none⟩)) (hp : Has L g c t') (hr : Row P t n) (hn : c.size = n)
    (h : wpList P ops Q rest (a.put (some d) (.agg c)) u.w) : wpList P ops Q (⟨some d, .load t x, ty, ps, af, none⟩ :: rest) a u.w := list_load hx hr hn h
theorem lst_store {g : Nat} {c c' : Array Value} {n : Nat} (hx : a.eval x = .pointer (some ⟨g, 0, none⟩)) (hy : a.eval y = .agg c') (hp : PutAll L g c' c L') (hr : Row P t n) (hn : c.size = n) (hn' : c'.size = n)
    (h1 : c'.all (·.oneCell') = true) (h : ∀ u' : KW W L', wpList P ops Q rest a u'.w) : wpList P ops Q (⟨none, .store t x y, ty, ps, af, none⟩ :: rest) a u.w := list_store hx hy hr hn hn' h1 h
/-- the same in a region that draws its order -/
theorem quiet_load {gd : Option (Nat × Bool)} {K : Act → Prop} {g : Nat} {c : Array Value} {t' : TypeId} {n : Nat} (hx : a.eval x = .pointer (some ⟨g, 0, none⟩)) [Has L g c t'] (hr : Row P t n) (hn : c.size = n)
    (h : K (a.put (some d) (.agg c))) : Oper.quiet P ⟨some d, .load t x, ty, ps, af, gd⟩ a (fun w' => ∃ u : KW W L, w' = u.w) K := by
  refine ⟨.agg c, ?_, h⟩
  rintro w ⟨u, rfl⟩
  unfold Oper.quietAt execOp
  simp only [hx, Sem.run_bind, run_load u hr hn, Result.andThen_ok, Sem.run_pure]
  exact ⟨rfl, rfl⟩
theorem call {f : FuncId} {args : Array Value} {v : Value} (h : ∀ w, Calls P f args w (Ret v w)) (u : KW W L) : Calls P f args u.w fun e w'' => e = .returned v ∧ ∃ u' : KW W L, w'' = u'.w :=
  (h u.w).mono fun _ _ ⟨he, hb⟩ => ⟨he, u.go hb⟩
theorem call_same {f : FuncId} {args : Array Value} {v : Value} (h : ∀ w, Calls P f args w (fun e w' => e = .returned v ∧ w = w')) (u : KW W L) : Calls P f args u.w fun e w'' => e = .returned v ∧ ∃ u' : KW W L, w'' = u'.w :=
  (h u.w).mono fun _ _ ⟨he, hb⟩ => ⟨he, u, hb.symm⟩
theorem region {id : Nat} {l : List Oper} (hm : P.follows .mixedOrders = true) (hB : Region.lexB .any l.toArray = true)
    (h : Nonempty (KW W L) → wpQuiet P l.toArray (fun w' => ∃ u : KW W L, w' = u.w) (fun a' => ∀ w', (∃ u : KW W L, w' = u.w) → Q .normal a' w') l a) : (Code.region id l.toArray true).wp P Q a u.w :=
  wp_region_quiet (C := fun w' => ∃ u : KW W L, w' = u.w) hm hB ⟨u.drew, rfl⟩ (h ⟨u⟩)
end

/-! ### results that lie in variables -/
section
variable {P : Program} {fn : Func} {R : Ending → World → Prop} {tmps : Array Value} {W : World} {L : List Ent} {u : KW W L} {ty : TypeId} {p q : Tmp} {g n : Nat} {c : Array Value} {t : TypeId}
theorem run_cell (hp : tmps.getD p undef = .pointer (some ⟨g, 0, none⟩)) [h : Has L g c t] (hr : Row P ty n) (hn : c.size = n) :
    (asAddr (tmps.getD p undef)).run P u.w = .ok ⟨g, 0, none⟩ u.w ∧ (loadVar ty ⟨g, 0, none⟩).run P u.w = .ok (.agg c) u.w :=
  ⟨by rw [hp]; simp [asAddr], run_row (u.block (h := h)) hr hn⟩
theorem body_cell (hf : fn.results = #[.cell p ty]) (hp : tmps.getD p undef = .pointer (some ⟨g, 0, none⟩)) [h : Has L g c t] (hr : Row P ty n) (hn : c.size = n) (hR : R (.returned (.agg c)) u.w) :
    bodyPost P fn R .ret ⟨tmps, []⟩ u.w := by
  obtain ⟨h1, h2⟩ := run_cell (u := u) hp hr hn
  refine bodyPost_ret (v := .agg c) ?_ rfl hR
  simp only [Array.getD_eq_getD_getElem?] at h1
  simp only [results, hf]
  simp [Sem.run_bind, h1, h2]
theorem body_cell_tmp {v : Value} (hf : fn.results = #[.cell p ty, .tmp q]) (hp : tmps.getD p undef = .pointer (some ⟨g, 0, none⟩)) (hq : tmps.getD q undef = v) [h : Has L g c t] (hr : Row P ty n) (hn : c.size = n)
    (hR : R (.returned (.tuple #[.agg c, v])) u.w) : bodyPost P fn R .ret ⟨tmps, []⟩ u.w := by
  obtain ⟨h1, h2⟩ := run_cell (u := u) hp hr hn
  refine bodyPost_ret (v := .tuple #[.agg c, v]) ?_ rfl hR
  rw [results_cell_tmp hf, h1, Result.andThen_ok, h2, Result.andThen_ok, hq]
end

/-- behind an append to a slice that lies behind all that is told of -/
theorem KW.grown {W : World} {L : List Ent} (u : KW W L) {w' : World} {row : Option Nat} {B1 : Nat} (hg : u.w.grownBy w' row) (hr : ∀ k, row = some k → B1 ≤ k) (hW : W.heap.size ≤ B1) (hL : ∀ e ∈ L, e.g < B1) : ∃ u' : KW W L, w' = u'.w :=
  ⟨⟨w', Below.grown u.below hg u.size (fun k hk => Nat.le_trans hW (hr k hk)), fun e he => ⟨by
    rw [hg.block e.g (u.lt_of_mem e he) (fun h => by have := hr _ h.symm; have := hL e he; omega)]
    exact (u.mem e he).1, (u.mem e he).2⟩, u.nodup⟩, rfl⟩
/-- a row that a call has made and handed over is told of from now on -/
theorem KW.take_own {W : World} {L : List Ent} (u : KW W L) {w' : World} {e : TypeId} {v : Value} {n : Nat} {xs : List Value} (hb : Below u.w.heap.size u.w w') (h : w'.ownsRow u.w.heap.size e 1 v n xs) (hn : 0 < n) :
    ∃ (g cap : Nat) (cur : Array Value) (u' : KW W (⟨g, cur, e⟩ :: L)), v = .slice (some ⟨g, 0, none⟩) n cap ∧ n ≤ cap ∧ cap ≤ maxLen ∧ cur.size = cap ∧ cur.toList.take n = xs ∧ w' = u'.w := by
  obtain ⟨_, ⟨_, h2⟩ | ⟨g, cap, cur, hv, hg, hc, h1, h2, h3, h4⟩⟩ := h
  · omega
  · refine ⟨g, cap, cur, ⟨w', (u.later hb).below, fun x hx => ?_, ?_⟩, hv, h1, h2, by omega, by rw [← h4, Nat.mul_one], rfl⟩
    · rcases List.mem_cons.1 hx with rfl | hx
      · exact ⟨hc, Nat.le_trans u.size hg⟩
      · exact (u.later hb).mem x hx
    · simp only [List.map_cons, List.nodup_cons]
      refine ⟨fun hm => ?_, u.nodup⟩
      obtain ⟨x, hx, h1⟩ := List.mem_map.1 hm
      have := u.lt_of_mem x hx
      omega
/-! ### a region whose head is quiet in a class of worlds and whose tail comes in one order -/
section
variable {P : Program} {ops : Array Oper} {md : Region.Mode} {C : World → Prop}
/-- f operations of the head are still to come, in whatever order; each is quiet; then T -/
def headLeft (P : Program) (md : Region.Mode) (ops : Array Oper) (C : World → Prop) (n : Nat) (T : Array Bool → Act → Prop) : Nat → Array Bool → Act → Prop
  | 0, ls, a => T ls a
  | f + 1, ls, a => Region.ready md ops ls ≠ [] ∧ ∀ i ∈ Region.ready md ops ls, i < n ∧ qOp P ops C i (headLeft P md ops C n T f (ls.setIfInBounds i true)) a
theorem headLeft_any {n m : Nat} {T : Array Bool → Act → Prop} {Q : Exit → Act → World → Prop} (hT : ∀ ls a w, C w → T ls a → wpAny P md ops Q m ls a w) (f : Nat) :
    ∀ (ls : Array Bool) (a : Act) (w : World), C w → headLeft P md ops C n T f ls a → wpAny P md ops Q (f + m) ls a w := by
  induction f with
  | zero => intro ls a w hw h; rw [Nat.zero_add]; exact hT _ _ _ hw h
  | succ f ih =>
    intro ls a w hw h
    rw [Nat.add_right_comm]
    refine ⟨fun h0 => absurd h0 h.1, fun i hi => ?_⟩
    exact wpOp_of_qOp hw (fun a' w' hw' h' => ih _ a' w' hw' h') (h.2 i hi).2
/-- an operation of the head that may come may come first -/
theorem headLeft_first {n i : Nat} {oi : Oper} {v : Value} {T : Array Bool → Act → Prop} (hi : ops[i]? = some oi) (hsel : ∀ (j : Nat) (o : Oper) cs b, ops[j]? = some o → o.op ≠ .select cs b)
    (hs : Region.sinkB md ops n = true) (hc : Region.chainB md ops n = true) (hn : n < ops.size) (hin : i < n) (hT : ∀ ls a, T ls a → ∀ j ∈ Region.ready md ops ls, n ≤ j) (f : Nat) :
    ∀ (ls : Array Bool) (a : Act), HeadInv md ops n ls →
      (∀ j oj, ops[j]? = some oj → j ≠ i → ls.getD j true = false → (∀ e ∈ oj.after, Region.binds md e = true → e.on ≠ i) → oi.apart ops oj = true) →
      i ∈ Region.ready md ops ls → YieldsIn P ops C oi v a → headLeft P md ops C n T f (ls.setIfInBounds i true) (a.put oi.dst v) → headLeft P md ops C n T (f + 1) ls a := by
  induction f with
  | zero =>
    intro ls a inv _ hr hy H
    refine ⟨fun h0 => (by rw [h0] at hr; cases hr), fun j hj => ?_⟩
    have hjn : j < n := Nat.lt_of_not_le fun hge => tail_waits hs hc hn inv _ i rfl hin (mem_ready.1 hr).1 j hge hj
    by_cases hji : j = i
    · rw [hji]; exact ⟨hin, hy.qOp hi H⟩
    · exact absurd (hT _ _ H j (ready_mono hj hji)) (by omega)
  | succ f ih =>
    intro ls a inv hap hr hy H
    refine ⟨fun h0 => (by rw [h0] at hr; cases hr), fun j hj => ?_⟩
    have hun := (mem_ready.1 hr).1
    have hjn : j < n := Nat.lt_of_not_le fun hge => tail_waits hs hc hn inv _ i rfl hin hun j hge hj
    refine ⟨hjn, ?_⟩
    by_cases hji : j = i
    · rw [hji]; exact hy.qOp hi H
    · obtain ⟨hju, oj, hoj, hall⟩ := mem_ready.1 hj
      have hno : ∀ e ∈ oj.after, Region.binds md e = true → e.on ≠ i := fun e he hb hc' => by
        have := hall e he hb
        rw [hc', getD_both hun] at this
        cases this
      refine qOp_mono (fun a' h3 => ?_) (qOp_put hoj (hap j oj hoj hji hju hno) (fun cs b => hsel i oi cs b hi) (fun cs b => hsel j oj cs b hoj) hy (H.2 j (ready_mono hj hji)).2)
      have H3 := h3.2
      rw [Array.setIfInBounds_comm true true (fun e => hji e.symm)] at H3
      refine ih _ a' (inv.set hj hjn) (fun k ok hk hki hku hkn => hap k ok hk hki ?_ hkn) (ready_mono hr (fun e => hji e.symm)) h3.1 H3
      by_cases hjk : j = k
      · rw [← hjk]; exact hju
      · rwa [getD_set_ne true hjk] at hku
/-- the head in the order of the text serves every order -/
theorem headLeft_lex {n m : Nat} {T : Act → Prop} (hsel : Region.noSelect ops = true) (hs : Region.sinkB md ops n = true) (hc : Region.chainB md ops n = true) (hn : n < ops.size) (l : List Oper) :
    ∀ (k : Nat) (ls : Array Bool) (a : Act), (∀ j, j < l.length → l[j]? = ops[k + j]?) → k + l.length = n → HeadInv md ops n ls → Region.lexHead md ops m l.length k ls = true → wpQuiet P ops C T l a →
      headLeft P md ops C n (fun ls' a' => Region.seqB md ops m n ls' = true ∧ T a') l.length ls a := by
  induction l with
  | nil =>
    intro k ls a _ hk _ hB h
    have e : k = n := by simpa using hk
    rw [e] at hB
    exact ⟨by simpa [Region.lexHead] using hB, h⟩
  | cons o l ih =>
    intro k ls a hl hk inv hB h
    have h0 : ops[k]? = some o := by simpa using (hl 0 (by simp)).symm
    simp only [List.length_cons, Region.lexHead, Bool.and_eq_true] at hB
    have hkn : k < n := by simp only [List.length_cons] at hk; omega
    have hr : k ∈ Region.ready md ops ls := by simpa using hB.1.1
    obtain ⟨v, hy, hK⟩ := yieldsIn_of_qOp h0 (show qOp P ops C k (wpQuiet P ops C T l) a by unfold qOp; simp only [h0]; exact h)
    refine headLeft_first h0 (Region.noSelect_spec hsel) hs hc hn hkn (fun ls' a' hT => seqB_ready hT.1) l.length ls a inv (Region.free_spec h0 hB.1.2) hr hy (ih (k + 1) _ _ (fun j hj => ?_) ?_ (inv.set hr hkn) hB.2 hK)
    · have := hl (j + 1) (by simp; omega)
      simpa [Nat.add_assoc, Nat.add_comm 1 j] using this
    · simp only [List.length_cons] at hk; omega
theorem region_tail {id : Nat} {Q : Exit → Act → World → Prop} {a : Act} {W : World} {L : List Ent} {u : KW W L} {l : List Oper} (n : Nat) (hm : P.follows .mixedOrders = true) (hB : Region.lexTailB .any l.toArray n = true)
    (h : Nonempty (KW W L) → wpQuiet P l.toArray (fun w' => ∃ u : KW W L, w' = u.w) (fun a' => ∀ w', (∃ u : KW W L, w' = u.w) → wpList P l.toArray Q (l.drop n) a' w') (l.take n) a) : (Code.region id l.toArray true).wp P Q a u.w := by
  simp only [Region.lexTailB, Bool.and_eq_true, decide_eq_true_eq] at hB
  obtain ⟨⟨⟨⟨hsel, hn⟩, hs⟩, hc⟩, hlex⟩ := hB
  have hn' : n < l.length := by simpa using hn
  have htl : (l.take n).length = n := by simp; omega
  have hdl : (l.drop n).length = l.toArray.size - n := by simp
  have hsum : n + (l.toArray.size - n) = l.toArray.size := by omega
  have inv0 : HeadInv .any l.toArray n (Array.replicate l.toArray.size false) :=
    ⟨by simp, fun j oj _ hl => (by rw [getD_replicate_false] at hl; cases hl), fun t _ ht => getD_in (by simpa using ht) (getD_replicate_false _ _)⟩
  have H := headLeft_lex (md := .any) (m := l.toArray.size - n) hsel hs hc hn (l.take n) 0 _ a (fun j hj => by
    rw [htl] at hj
    simp [hj]) (by simpa using htl) inv0 (by rw [htl]; exact hlex) (h ⟨u⟩)
  rw [htl] at H
  refine wp_region_any hm ?_
  have A := headLeft_any (Q := Q) (m := l.toArray.size - n) (fun ls a' w' hw hT => by
    have := wpAny_of_seq (md := .any) (Q' := Q) (l.drop n) n ls a' w' (fun j => by simp [List.getElem?_drop]) (by rw [hdl]; exact hT.1) (hT.2 w' hw)
    rwa [hdl] at this) n _ a u.drew.w ⟨u.drew, rfl⟩ H
  rw [hsum] at A
  exact A
end
end KM
