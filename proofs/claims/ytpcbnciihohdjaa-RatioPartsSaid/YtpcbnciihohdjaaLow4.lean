/-
  Texts of the layers below in one: Part IntMath Int Sign Sign2 Sign3 Sign4 SignRef SignRef2 SignRef3 SignLaws IntArgs.
-/
import Derived.Test.YtpcbnciihohdjaaLow3
import Derived.Deep.MidRow
import Derived.Laws.StructEq
import Derived.Test.YtpcbnciihohdjaaLow2
import Derived.WideShapes
import Derived.ChangeSame
/- Parts of blocks by value, for any program: a struct's field that is itself a row of cells is loaded and stored whole; rows that are known for a type. -/
namespace KM
open Go Go.RowKit
/-- cells of type t -/
class Cel (P : Program) (t : TypeId) (c : Array Value) : Prop where
  row : Row P t c.size
  one : c.all (·.oneCell') = true
/-- the cells of c from o on are, as type t, c' -/
class Part (P : Program) (t : TypeId) (c : Array Value) (o : Nat) (c' : outParam (Array Value)) : Prop where
  row : Row P t c'.size
  at_ : ∀ j, j < c'.size → c[o + j]? = c'[j]?
instance (priority := low) Part.whole {P : Program} {t : TypeId} {c : Array Value} [h : Cel P t c] : Part P t c 0 c := ⟨h.row, fun j _ => by rw [Nat.zero_add]⟩
def splice : Array Value → Nat → List Value → Array Value
  | c, _, [] => c
  | c, o, v :: r => splice (c.setIfInBounds o v) (o + 1) r
/-- c' put into c from o on, as type t, makes c'' -/
class PutP (P : Program) (t : TypeId) (c : Array Value) (o : Nat) (c' : Array Value) (c'' : outParam (Array Value)) : Prop where
  row : Row P t c'.size
  one : c'.all (·.oneCell') = true
  fits : o + c'.size ≤ c.size
  at_ : splice c o c'.toList = c''
theorem splice_size : ∀ (vs : List Value) (c : Array Value) (o : Nat), (splice c o vs).size = c.size
  | [], _, _ => rfl
  | v :: r, c, o => by rw [splice, splice_size r]; simp
theorem splice_get : ∀ (vs : List Value) (c : Array Value) (o : Nat), o + vs.length ≤ c.size → ∀ j, (splice c o vs)[j]? = if o ≤ j ∧ j < o + vs.length then vs[j - o]? else c[j]?
  | [], c, o, _, j => by rw [if_neg (by rintro ⟨h1, h2⟩; exact absurd h2 (Nat.not_lt_of_le (by simpa using h1)))]; rfl
  | v :: r, c, o, h, j => by
    rw [List.length_cons] at h ⊢
    rw [splice, splice_get r _ (o + 1) (by simp; omega) j]
    by_cases h1 : o + 1 ≤ j ∧ j < o + 1 + r.length
    · rw [if_pos h1, if_pos (by omega), show j - o = (j - (o + 1)) + 1 by omega, List.getElem?_cons_succ]
    · rw [if_neg h1]
      by_cases e : j = o
      · subst e
        rw [if_pos (by omega), Nat.sub_self, List.getElem?_cons_zero, Array.getElem?_setIfInBounds_self_of_lt (by omega)]
      · rw [if_neg (by omega), Array.getElem?_setIfInBounds_ne (fun h => e h.symm)]
theorem splice_whole {c c' : Array Value} (h : c.size = c'.size) : splice c 0 c'.toList = c' := by
  apply Array.ext_getElem?
  intro j
  rw [splice_get _ _ _ (by simp; omega)]
  by_cases hj : j < c'.size
  · rw [if_pos (by simp; omega)]; simp
  · rw [if_neg (by simp; omega), Array.getElem?_eq_none (by omega), Array.getElem?_eq_none (by omega)]
/-- both are rows of n cells -/
theorem PutP.of {P : Program} {t : TypeId} {c c' : Array Value} (h : Cel P t c') (hn : c.size = c'.size) : PutP P t c 0 c' c' := ⟨h.row, h.one, by omega, splice_whole hn⟩
/-- c is what a new variable of type t holds -/
class ZeroC (P : Program) (t : TypeId) (c : outParam (Array Value)) : Prop where
  out : Zero P t c
section
variable {P : Program} {W : World} {L L' : List Ent}
theorem row_under {t : TypeId} {n : Nat} (h : Row P t n) : ∃ d, P.underlying t = some d ∧ d.isRow = true := by
  have h1 := h.1
  cases hd : P.underlying t with
  | none => rw [hd] at h1; simp at h1
  | some d => rw [hd] at h1; exact ⟨d, rfl, by cases d <;> simp_all⟩
theorem run_part_row {t : TypeId} {n : Nat} (hr : Row P t n) (w : World) (cs : Array Value) (off : Nat) : (part t cs off).run P w = .ok (.agg (cs.extract off (off + n))) w := by
  obtain ⟨d, hu, hd⟩ := row_under hr
  have hagg : (isAgg t).run P w = .ok true w := by
    unfold isAgg
    rw [Sem.run_bind, run_underlying hu w]
    cases d <;> simp_all
  have h2 := hr.2
  cases hq : P.info? t with
  | none => rw [hq] at h2; simp at h2
  | some i =>
    have hs : i.size = n := by rw [hq] at h2; simpa using h2
    simp [part, Sem.run_bind, hagg, Go.sizeOf, typeInfo, hq, hs]
theorem run_part (u : KW W L) {g o : Nat} {c c' : Array Value} {t t' : TypeId} (hp : Has L g c t') (hq : Part P t c o c') :
    (loadVar t ⟨g, o, none⟩).run P u.w = .ok (.agg c') u.w := by
  obtain ⟨d, hu, hd⟩ := row_under hq.row
  have := run_loadVar_mid (P := P) u.w g o t c'.toList d (fun j v hj => by
    have hj' : c'[j]? = some v := by simpa using hj
    have hl : j < c'.size := (Array.getElem?_eq_some_iff.1 hj').1
    rw [u.cell? (h := hp), hq.at_ j hl, hj']) hu hd (by rw [hq.row.2]; simp)
  simpa using this
theorem run_loadAt_part (u : KW W L) {g o : Nat} {c c' : Array Value} {t t' : TypeId} (hp : Has L g c t') (hq : Part P t c o c') :
    (Instr.loadAt t (.pointer (some ⟨g, o, none⟩))).run P u.w = .ok (.agg c') u.w := by
  simp only [Instr.loadAt, Instr.sureAddr, Sem.run_bind, Sem.run_pure, Result.andThen_ok, run_part u hp hq]
theorem KW.ex_cells {g : Nat} {t : TypeId} {A B : List Ent} : ∀ (vs : List Value) (c : Array Value) (o : Nat) (u : KW W (A ++ ⟨g, c, t⟩ :: B)), ∃ u' : KW W (A ++ ⟨g, splice c o vs, t⟩ :: B), u.w.setCells g o vs = u'.w
  | [], c, o, u => ⟨u, rfl⟩
  | v :: r, c, o, u => by
    obtain ⟨u1, h1⟩ := u.ex_cell (L' := A ++ ⟨g, c.setIfInBounds o v, t⟩ :: B) (h := ⟨⟨A, t, B, rfl, rfl⟩⟩)
    obtain ⟨u2, h2⟩ := KW.ex_cells r _ (o + 1) u1
    exact ⟨u2, by rw [World.setCells, h1, h2]⟩
theorem ex_part (u : KW W L) {g o : Nat} {c c' c'' : Array Value} {t t' : TypeId} (hp : Has L g c t') (hq : PutP P t c o c' c'') (hL : PutAll L g c'' c L') :
    ∃ u' : KW W L', (storeVar t ⟨g, o, none⟩ (.agg c')).run P u.w = .ok () u'.w := by
  obtain ⟨A, t1, B, rfl, rfl⟩ := hL.out
  obtain ⟨u', hu'⟩ := KW.ex_cells (g := g) c'.toList c o u
  have e := hq.at_
  subst e
  refine ⟨u', ?_⟩
  have hm := u.mem ⟨g, c, t1⟩ (by simp)
  have hb : u.w.heap[g]? = some (.cells c t1 (0, 0)) := hm.1
  rw [← hu']
  have hf := hq.fits
  refine run_storeVar_mid (P := P) u.w g o t c' (fun j hj => ⟨?_, ?_⟩) hq.row.2 hq.one
  · rw [cell_of_row _ _ _ _ _ _ hb, Array.getElem?_eq_getElem (by omega)]; rfl
  · exact frozen_of_row _ _ _ _ _ hb
end
/-- v put into c at o, as a variable of type t, makes c' -/
class PutV (P : Program) (t : TypeId) (c : Array Value) (o : Nat) (v : Value) (c' : outParam (Array Value)) : Prop where
  size : (P.info? t).map (·.size) = some 1
  one : v.oneCell' = true
  cells : v.cells = #[v]
  fits : o < c.size
  at_ : c.setIfInBounds o v = c'
theorem ex_put {P : Program} {W : World} {L L' : List Ent} (u : KW W L) {g o : Nat} {c c' : Array Value} {t t' : TypeId} {v : Value} (hp : Has L g c t') (hq : PutV P t c o v c') (hL : PutAll L g c' c L') :
    ∃ u' : KW W L', (storeVar t ⟨g, o, none⟩ v).run P u.w = .ok () u'.w := by
  obtain ⟨A, t1, B, rfl, rfl⟩ := hL.out
  have e := hq.at_
  subst e
  obtain ⟨u', hu'⟩ := KW.ex_cells (g := g) [v] c o u
  refine ⟨u', ?_⟩
  have hb : u.w.heap[g]? = some (.cells c t1 (0, 0)) := (u.mem ⟨g, c, t1⟩ (by simp)).1
  rw [← hu']
  have hf := hq.fits
  have h1 := run_storeVar_mid (P := P) u.w g o t #[v] (fun j hj => ⟨by rw [cell_of_row _ _ _ _ _ _ hb, Array.getElem?_eq_getElem (by simp at hj; omega)]; rfl, frozen_of_row _ _ _ _ _ hb⟩) hq.size (by simpa using hq.one)
  have h2 : storeVar t ⟨g, o, none⟩ v = storeVar t ⟨g, o, none⟩ (.agg #[v]) := by
    unfold storeVar
    rw [hq.cells, show (Value.agg #[v]).cells = #[v] from rfl]
  rw [h2]
  exact h1
section
variable {P : Program} {ops : Array Oper} {Q : Exit → Act → World → Prop} {rest : List Oper} {a : Act} {W : World} {L L' Lc : List Ent} {u : KW W L}
  {d : Tmp} {t ty : TypeId} {ps : String} {af : Array Edge} {x y : Operand} {T : Act → Prop}
theorem ls_alloc {c : Array Value} (hz : ZeroC P t c) (h : ∀ (g : Nat) (u' : KW W (⟨g, c, t⟩ :: L)), wpList P ops Q rest (a.put (some d) (.pointer (some ⟨g, 0, none⟩))) u'.w) :
    wpList P ops Q (⟨some d, .alloc t, ty, ps, af, none⟩ :: rest) a u.w := list_alloc hz.out h
theorem ls_value {op : Op} {v : Value} {w : World} {d : Option Tmp} (hv : (execOp a.eval ⟨d, op, ty, ps, af, none⟩).run P w = .ok (.value v) w) (h : wpList P ops Q rest (a.put d v) w) : wpList P ops Q (⟨d, op, ty, ps, af, none⟩ :: rest) a w := by
  refine wpList_plain rfl fun K hK => ?_
  unfold Oper.wp
  rw [hv]
  exact hK _ _ h
theorem exec_build {gd : Option (Nat × Bool)} {d : Option Tmp} {parts : Array (Nat × Operand)} {c : Array Value} (h : P.built t (parts.map fun (i, x) => (i, a.eval x)).toList = some c) (w : World) :
    (execOp a.eval ⟨d, .build t parts, ty, ps, af, gd⟩).run P w = .ok (.value (.agg c)) w := by
  unfold execOp
  simp only [Sem.run_bind, run_build w t _ c h, Result.andThen_ok, Sem.run_pure]
theorem ls_load {g o : Nat} {c c' : Array Value} {t' : TypeId} (hx : a.eval x = .pointer (some ⟨g, o, none⟩)) (hp : Has L g c t') (hq : Part P t c o c')
    (h : wpList P ops Q rest (a.put (some d) (.agg c')) u.w) : wpList P ops Q (⟨some d, .load t x, ty, ps, af, none⟩ :: rest) a u.w := by
  refine wpList_plain rfl fun K hK => ?_
  unfold Oper.wp execOp
  simp only [hx, Sem.run_bind, run_loadAt_part u hp hq, Result.andThen_ok, Sem.run_pure]
  exact hK _ _ h
theorem lsg_load {gd : Option (Nat × Bool)} {g o : Nat} {c c' : Array Value} {t' : TypeId} (hw : Region.wanted ⟨some d, .load t x, ty, ps, af, gd⟩ (yielded ops a.tmps) = true) (hx : a.eval x = .pointer (some ⟨g, o, none⟩)) (hp : Has L g c t') (hq : Part P t c o c')
    (h : wpList P ops Q rest (a.put (some d) (.agg c')) u.w) : wpList P ops Q (⟨some d, .load t x, ty, ps, af, gd⟩ :: rest) a u.w := by
  unfold wpList
  rw [if_pos hw]
  left
  unfold Oper.wp execOp
  simp only [hx, Sem.run_bind, run_loadAt_part u hp hq, Result.andThen_ok, Sem.run_pure]
  exact h
theorem lsg_value {gd : Option (Nat × Bool)} {op : Op} {v : Value} {w : World} {d : Option Tmp} (hw : Region.wanted ⟨d, op, ty, ps, af, gd⟩ (yielded ops a.tmps) = true) (hv : (execOp a.eval ⟨d, op, ty, ps, af, gd⟩).run P w = .ok (.value v) w) (h : wpList P ops Q rest (a.put d v) w) : wpList P ops Q (⟨d, op, ty, ps, af, gd⟩ :: rest) a w := by
  unfold wpList
  rw [if_pos hw]
  left
  unfold Oper.wp
  rw [hv]
  exact h
theorem ls_store {g o : Nat} {c c' c'' : Array Value} {t' : TypeId} (hx : a.eval x = .pointer (some ⟨g, o, none⟩)) (hy : a.eval y = .agg c') (hp : Has L g c t') (hq : PutP P t c o c' c'') (hL : PutAll L g c'' c L')
    (h : ∀ u' : KW W L', wpList P ops Q rest a u'.w) : wpList P ops Q (⟨none, .store t x y, ty, ps, af, none⟩ :: rest) a u.w := by
  obtain ⟨u', hu'⟩ := ex_part u hp hq hL
  refine wpList_plain rfl fun K hK => ?_
  unfold Oper.wp execOp
  simp only [hx, hy, Instr.storeAt, Instr.sureAddr, Sem.run_bind, Sem.run_pure, Result.andThen_ok, hu']
  exact hK _ _ (h u')
theorem ls_put {g o : Nat} {c c' : Array Value} {t' : TypeId} {v : Value} (hx : a.eval x = .pointer (some ⟨g, o, none⟩)) (hy : a.eval y = v) (hp : Has L g c t') (hq : PutV P t c o v c') (hL : PutAll L g c' c L')
    (h : ∀ u' : KW W L', wpList P ops Q rest a u'.w) : wpList P ops Q (⟨none, .store t x y, ty, ps, af, none⟩ :: rest) a u.w := by
  obtain ⟨u', hu'⟩ := ex_put u hp hq hL
  refine wpList_plain rfl fun K hK => ?_
  unfold Oper.wp execOp
  simp only [hx, hy, Instr.storeAt, Instr.sureAddr, Sem.run_bind, Sem.run_pure, Result.andThen_ok, hu']
  exact hK _ _ (h u')
/-! in regions that draw their order -/
theorem hd_load {g o : Nat} {c c' : Array Value} {t' : TypeId} (hx : a.eval x = .pointer (some ⟨g, o, none⟩)) (hp : Has Lc g c t') (hq : Part P t c o c')
    (h : headS P W Lc T rest (a.put (some d) (.agg c'))) : headS P W Lc T (⟨some d, .load t x, ty, ps, af, none⟩ :: rest) a := by
  refine ⟨rfl, .agg c', fun L hL u => ?_, h⟩
  have hp' : Has L g c t' := ⟨hL.out.subset hp.out⟩
  unfold execOp
  simp only [hx, Sem.run_bind, run_loadAt_part u hp' hq, Result.andThen_ok, Sem.run_pure]
  exact ⟨L, hL, ⟨u, rfl⟩, rfl, rfl⟩
theorem tl_store {g o : Nat} {c c' c'' : Array Value} {t' : TypeId} (hx : a.eval x = .pointer (some ⟨g, o, none⟩)) (hy : a.eval y = .agg c') (hp : Has L g c t') (hq : PutP P t c o c' c'') (hL : PutAll L g c'' c L') (hs : Sub Lc L')
    (h : tailS P Q W Lc rest a L') : tailS P Q W Lc (⟨none, .store t x y, ty, ps, af, none⟩ :: rest) a L := by
  refine ⟨rfl, fun u => ?_⟩
  obtain ⟨u', hu'⟩ := ex_part u hp hq hL
  unfold execOp
  simp only [hx, hy, Instr.storeAt, Instr.sureAddr, Sem.run_bind, Sem.run_pure, Result.andThen_ok, hu']
  exact ⟨L', hs, ⟨u', rfl⟩, h⟩
theorem tl_alloc {c : Array Value} (hz : ZeroC P t c) (hs : Sub Lc L) (h : ∀ g, tailS P Q W Lc rest (a.put (some d) (.pointer (some ⟨g, 0, none⟩))) (⟨g, c, t⟩ :: L)) : tailS P Q W Lc (⟨some d, .alloc t, ty, ps, af, none⟩ :: rest) a L := tailS_alloc hz.out hs h
/-! in a region whose head is quiet (region, region_tail), guards and all -/
section
variable {o : Oper} {TQ : Act → Prop} {C : World → Prop} {gd : Option (Nat × Bool)} {dq : Option Tmp} {op : Op}
theorem qt_some {v : Value} (hw : Region.wanted o (yielded ops a.tmps) = true) (hv : ∀ w, C w → o.quietAt P a C w v) (h : wpQuiet P ops C TQ rest (a.put o.dst v)) : wpQuiet P ops C TQ (o :: rest) a := by
  unfold wpQuiet
  rw [if_pos hw]
  exact ⟨v, hv, h⟩
theorem qt_skip (hw : Region.wanted o (yielded ops a.tmps) = false) (h : wpQuiet P ops C TQ rest (a.put o.dst undef)) : wpQuiet P ops C TQ (o :: rest) a := by
  unfold wpQuiet
  rw [if_neg (by rw [hw]; decide)]
  exact h
theorem qt_value {v : Value} (hw : Region.wanted ⟨dq, op, ty, ps, af, gd⟩ (yielded ops a.tmps) = true) (hv : ∀ w, (execOp a.eval ⟨dq, op, ty, ps, af, gd⟩).run P w = .ok (.value v) w) (h : wpQuiet P ops C TQ rest (a.put dq v)) : wpQuiet P ops C TQ (⟨dq, op, ty, ps, af, gd⟩ :: rest) a :=
  qt_some hw (fun w hw => by unfold Oper.quietAt; rw [hv]; exact ⟨rfl, rfl⟩) h
theorem qt_load {g o : Nat} {c c' : Array Value} {t' : TypeId} (hw : Region.wanted ⟨some d, .load t x, ty, ps, af, gd⟩ (yielded ops a.tmps) = true) (hx : a.eval x = .pointer (some ⟨g, o, none⟩)) (hp : Has L g c t') (hq : Part P t c o c')
    (h : wpQuiet P ops (fun w' => ∃ u : KW W L, w' = u.w) TQ rest (a.put (some d) (.agg c'))) : wpQuiet P ops (fun w' => ∃ u : KW W L, w' = u.w) TQ (⟨some d, .load t x, ty, ps, af, gd⟩ :: rest) a :=
  qt_some hw (by
    rintro w ⟨u, rfl⟩
    unfold Oper.quietAt execOp
    simp only [hx, Sem.run_bind, run_loadAt_part u hp hq, Result.andThen_ok, Sem.run_pure]
    exact ⟨rfl, rfl⟩) h
theorem qt_call {f : FuncId} {args : Array Value} {v : Value} (hw : Region.wanted ⟨dq, op, ty, ps, af, gd⟩ (yielded ops a.tmps) = true) (he : ∀ w, (execOp a.eval ⟨dq, op, ty, ps, af, gd⟩).run P w = .ok (.enter f args) w) (hc : ∀ u : KW W L, Calls P f args u.w (Ret v u.w))
    (h : wpQuiet P ops (fun w' => ∃ u : KW W L, w' = u.w) TQ rest (a.put dq v)) : wpQuiet P ops (fun w' => ∃ u : KW W L, w' = u.w) TQ (⟨dq, op, ty, ps, af, gd⟩ :: rest) a :=
  qt_some hw (by
    rintro w ⟨u, rfl⟩
    unfold Oper.quietAt
    rw [he]
    exact ⟨rfl, (hc u).mono fun e w' ⟨h1, h2⟩ => ⟨h1, u.go h2⟩⟩) h
end
section
variable {S : World → Prop} {w : World} {mr : List (Bool × Oper)}
/-- one that a guard leaves out -/
theorem mixg_skip {gd : Option (Nat × Bool)} {op : Op} {d : Option Tmp} (hw : Region.wanted ⟨d, op, ty, ps, af, gd⟩ (yielded ops a.tmps) = false) (h : mixT P ops S Q mr (a.put d undef) w) : mixT P ops S Q ((true, ⟨d, op, ty, ps, af, gd⟩) :: mr) a w :=
  ⟨undef, Or.inr ⟨hw, rfl⟩, h⟩
theorem mixg_part {gd : Option (Nat × Bool)} {g o : Nat} {c c' : Array Value} {t' : TypeId} (hw : Region.wanted ⟨some d, .load t x, ty, ps, af, gd⟩ (yielded ops a.tmps) = true) (hx : a.eval x = .pointer (some ⟨g, o, none⟩)) (hp : Has Lc g c t') (hq : Part P t c o c')
    (h : mixT P ops (Known W Lc) Q mr (a.put (some d) (.agg c')) w) : mixT P ops (Known W Lc) Q ((true, ⟨some d, .load t x, ty, ps, af, gd⟩) :: mr) a w := by
  refine ⟨.agg c', Or.inl ⟨hw, ?_⟩, h⟩
  rintro w ⟨u, rfl⟩
  unfold execOp
  simp only [hx, Sem.run_bind, run_loadAt_part u hp hq, Result.andThen_ok, Sem.run_pure]
theorem mixg_store {gd : Option (Nat × Bool)} {g o : Nat} {c c' c'' : Array Value} {t' : TypeId} (hw : Region.wanted ⟨none, .store t x y, ty, ps, af, gd⟩ (yielded ops a.tmps) = true) (hx : a.eval x = .pointer (some ⟨g, o, none⟩)) (hy : a.eval y = .agg c') (hp : Has L g c t') (hq : PutP P t c o c' c'') (hL : PutAll L g c'' c L') (hs : Sub Lc L')
    (h : ∀ u' : KW W L', mixT P ops (Known W Lc) Q mr a u'.w) : mixT P ops (Known W Lc) Q ((false, ⟨none, .store t x y, ty, ps, af, gd⟩) :: mr) a u.w := by
  refine ⟨hw, ?_⟩
  obtain ⟨u', hu'⟩ := ex_part u hp hq hL
  unfold Oper.wp execOp
  simp only [hx, hy, Instr.storeAt, Instr.sureAddr, Sem.run_bind, Sem.run_pure, Result.andThen_ok, hu']
  exact ⟨KW.weak (h := hs) u', h u'⟩
theorem mixg_then {gd : Option (Nat × Bool)} {op : Op} {d : Option Tmp} {v : Value} (hw : Region.wanted ⟨d, op, ty, ps, af, gd⟩ (yielded ops a.tmps) = true) (hv : (execOp a.eval ⟨d, op, ty, ps, af, gd⟩).run P w = .ok (.value v) w) (hS : S w) (h : mixT P ops S Q mr (a.put d v) w) : mixT P ops S Q ((false, ⟨d, op, ty, ps, af, gd⟩) :: mr) a w :=
  ⟨hw, by unfold Oper.wp; rw [hv]; exact ⟨hS, h⟩⟩
end
end
/-! ### two allocs that may come in either order -/
section
variable {P : Program} {ops : Array Oper} {md : Region.Mode} {Q : Exit → Act → World → Prop} {W : World} {Lc : List Ent}
theorem KW.perm {W : World} {L L' : List Ent} (h : L.Perm L') (u : KW W L) : ∃ u' : KW W L', u.w = u'.w :=
  ⟨⟨u.w, u.below, fun e he => u.mem e (h.mem_iff.2 he), (h.map Ent.g).nodup_iff.1 u.nodup⟩, rfl⟩
theorem StepE.perm {m : Sem Next} {L L' : List Ent} {K : Value → List Ent → Prop} (h : L'.Perm L) (hs : StepE P W Lc m L K) : StepE P W Lc m L' K := fun u => by
  obtain ⟨u', hu'⟩ := u.perm h
  rw [hu']
  exact hs u'
theorem anyS_perm {f : Nat} {ls : Array Bool} {a : Act} {L L' : List Ent} (h : L'.Perm L) (hs : anyS P md ops Q W Lc f ls a L) : anyS P md ops Q W Lc f ls a L' := by
  have hw : (∀ u : KW W L, Q .normal a u.w) → ∀ u : KW W L', Q .normal a u.w := fun h1 u => by
    obtain ⟨u', hu'⟩ := u.perm h
    rw [hu']
    exact h1 u'
  cases f with
  | zero => exact ⟨hs.1, hw hs.2⟩
  | succ f =>
    refine ⟨fun h0 => hw (hs.1 h0), fun i hi => ?_⟩
    obtain ⟨o, ho, hg, hst⟩ := hs.2 i hi
    exact ⟨o, ho, hg, hst.perm h⟩
theorem stepE_alloc {a : Act} {L : List Ent} {d : Option Tmp} {t ty : TypeId} {ps : String} {af : Array Edge} {gd : Option (Nat × Bool)} {c : Array Value} {K : Value → List Ent → Prop} (hz : ZeroC P t c) (hs : Sub Lc L) (h : ∀ g, K (.pointer (some ⟨g, 0, none⟩)) (⟨g, c, t⟩ :: L)) :
    StepE P W Lc (execOp a.eval ⟨d, .alloc t, ty, ps, af, gd⟩) L K := fun u => by
  obtain ⟨i, hi, hz'⟩ := Option.map_eq_some_iff.1 hz.out
  obtain ⟨v, hv, rfl⟩ := Option.map_eq_some_iff.1 hz'
  have hr : (Instr.alloc t true (.tuple #[])).run P u.w = .ok (.pointer (some ⟨u.w.heap.size, 0, none⟩)) (u.alloc v.cells t).w := by
    simp [Instr.alloc, zeroValue, typeInfo, hi, hv, newVar, newRow, KW.alloc, go_sem]
  unfold execOp
  simp only [Sem.run_bind, hr, Result.andThen_ok, Sem.run_pure]
  exact ⟨_, Sub.skip (h := hs), ⟨u.alloc v.cells t, rfl⟩, h _⟩
def twoB (md : Region.Mode) (ops : Array Oper) (i j : Nat) (ls : Array Bool) : Bool :=
  decide (Region.ready md ops ls = [i, j]) && decide (Region.ready md ops (ls.setIfInBounds i true) = [j]) && decide (Region.ready md ops (ls.setIfInBounds j true) = [i])
theorem any_allocs {i j d e : Nat} {t t' ty ty' : TypeId} {ps ps' : String} {af af' : Array Edge} {f : Nat} {ls : Array Bool} {a : Act} {L : List Ent} {c c' : Array Value}
    (hi : ops[i]? = some ⟨some d, .alloc t, ty, ps, af, none⟩) (hj : ops[j]? = some ⟨some e, .alloc t', ty', ps', af', none⟩) (hde : d ≠ e) (hij : i ≠ j) (hB : twoB md ops i j ls = true) (hs : Sub Lc L) (hz : ZeroC P t c) (hz' : ZeroC P t' c')
    (h : ∀ g g', anyS P md ops Q W Lc f ((ls.setIfInBounds i true).setIfInBounds j true) ((a.put (some d) (.pointer (some ⟨g, 0, none⟩))).put (some e) (.pointer (some ⟨g', 0, none⟩))) (⟨g', c', t'⟩ :: ⟨g, c, t⟩ :: L)) :
    anyS P md ops Q W Lc (f + 2) ls a L := by
  simp only [twoB, Bool.and_eq_true, decide_eq_true_eq] at hB
  refine ⟨fun h0 => (by rw [hB.1.1] at h0; cases h0), fun k hk => ?_⟩
  rw [hB.1.1] at hk
  rcases List.mem_cons.1 hk with rfl | hk
  · refine ⟨_, hi, rfl, stepE_alloc hz hs fun g => ⟨fun h0 => (by rw [hB.1.2] at h0; cases h0), fun k' hk' => ?_⟩⟩
    rw [hB.1.2] at hk'
    obtain rfl : k' = j := by simpa using hk'
    exact ⟨_, hj, rfl, stepE_alloc hz' (Sub.skip (h := hs)) fun g' => h g g'⟩
  · obtain rfl : k = j := by simpa using hk
    refine ⟨_, hj, rfl, stepE_alloc hz' hs fun g' => ⟨fun h0 => (by rw [hB.2] at h0; cases h0), fun k' hk' => ?_⟩⟩
    rw [hB.2] at hk'
    obtain rfl : k' = i := by simpa using hk'
    refine ⟨_, hi, rfl, stepE_alloc hz (Sub.skip (h := hs)) fun g => ?_⟩
    have H := anyS_perm (List.Perm.swap ⟨g', c', t'⟩ ⟨g, c, t⟩ L) (h g g')
    rw [Array.setIfInBounds_comm true true hij, Act.put_comm a (x := some d) (y := some e) _ _ (fun z h1 h2 => hde ((Option.some.inj h1).trans (Option.some.inj h2).symm))] at H
    exact H
end
/-! ### a region in any mixture, told with what is known: take k: number k is taken first (it answers the same wherever Lc's blocks are known); sole k: it is the only one that may come; two i j: allocs that may come in either order -/
inductive Mv where
  | take (k : Nat)
  | sole (k : Nat)
  | two (i j : Nat)
inductive St where
  | take (o : Oper)
  | sole (o : Oper)
  | two (o o' : Oper)
def Mv.cost : Mv → Nat
  | .two _ _ => 2
  | _ => 1
def costs (ms : List Mv) : Nat := (ms.map Mv.cost).sum
def Mv.pick (l : List Oper) : Mv → Option St
  | .take k => (l[k]?).map .take
  | .sole k => (l[k]?).map .sole
  | .two i j => match l[i]?, l[j]? with
    | some o, some o' => some (.two o o')
    | _, _ => none
def picksM (l : List Oper) (ms : List Mv) : List St := ms.filterMap (Mv.pick l)
def allocDst : Oper → Option Nat
  | ⟨some d, .alloc _, _, _, _, none⟩ => some d
  | _ => none
section
variable {P : Program} {ops : Array Oper} {md : Region.Mode} {Q : Exit → Act → World → Prop} {W : World} {Lc : List Ent}
def movesB (md : Region.Mode) (ops : Array Oper) : List Mv → Array Bool → Bool
  | [], ls => (Region.ready md ops ls).isEmpty
  | .take k :: r, ls => (Region.ready md ops ls).contains k && Region.free md ops ls k && (ops[k]?).isSome && movesB md ops r (ls.setIfInBounds k true)
  | .sole k :: r, ls => decide (Region.ready md ops ls = [k]) && (ops[k]?).isSome && movesB md ops r (ls.setIfInBounds k true)
  | .two i j :: r, ls => twoB md ops i j ls && decide (i ≠ j) && (ops[i]?).isSome && (ops[j]?).isSome && movesB md ops r ((ls.setIfInBounds i true).setIfInBounds j true)
def mixS (P : Program) (Q : Exit → Act → World → Prop) (W : World) (Lc : List Ent) : List St → Act → List Ent → Prop
  | [], a, L => ∀ u : KW W L, Q .normal a u.w
  | .take o :: r, a, L => o.guard = none ∧ ∃ v, Says P W Lc (execOp a.eval o) v ∧ mixS P Q W Lc r (a.put o.dst v) L
  | .sole o :: r, a, L => o.guard = none ∧ StepE P W Lc (execOp a.eval o) L fun v L' => mixS P Q W Lc r (a.put o.dst v) L'
  | .two o o' :: r, a, L => ∃ d t ty ps af e t' ty' ps' af' c c', o = ⟨some d, .alloc t, ty, ps, af, none⟩ ∧ o' = ⟨some e, .alloc t', ty', ps', af', none⟩ ∧ d ≠ e ∧ ZeroC P t c ∧ ZeroC P t' c' ∧
      ∀ g g', mixS P Q W Lc r ((a.put (some d) (.pointer (some ⟨g, 0, none⟩))).put (some e) (.pointer (some ⟨g', 0, none⟩))) (⟨g', c', t'⟩ :: ⟨g, c, t⟩ :: L)
theorem any_mix {l : List Oper} (hl : ops = l.toArray) (hsel : Region.noSelect ops = true) : ∀ (ms : List Mv) (ls : Array Bool) (a : Act) (L : List Ent), movesB md ops ms ls = true → Sub Lc L → mixS P Q W Lc (picksM l ms) a L → anyS P md ops Q W Lc (costs ms) ls a L
  | [], ls, a, L, hB, _, h => ⟨by simpa [movesB] using hB, h⟩
  | .take k :: ms, ls, a, L, hB, hs, h => by
    simp only [movesB, Bool.and_eq_true] at hB
    obtain ⟨o, h0⟩ := Option.isSome_iff_exists.1 hB.1.2
    have h0' : l[k]? = some o := by rw [hl] at h0; simpa using h0
    simp only [picksM, List.filterMap_cons, Mv.pick, h0', Option.map_some] at h
    obtain ⟨hg, v, hy, hR⟩ := h
    have A := any_first h0 hg (Region.noSelect_spec hsel) _ ls a L (Region.free_spec h0 hB.1.1.2) (by simpa using hB.1.1.1) hy hs (any_mix hl hsel ms _ _ L hB.2 hs hR)
    rwa [show costs (.take k :: ms) = costs ms + 1 by simp [costs, Mv.cost]; omega]
  | .sole k :: ms, ls, a, L, hB, hs, h => by
    simp only [movesB, Bool.and_eq_true, decide_eq_true_eq] at hB
    obtain ⟨o, h0⟩ := Option.isSome_iff_exists.1 hB.1.2
    have h0' : l[k]? = some o := by rw [hl] at h0; simpa using h0
    simp only [picksM, List.filterMap_cons, Mv.pick, h0', Option.map_some] at h
    rw [show costs (.sole k :: ms) = costs ms + 1 by simp [costs, Mv.cost]; omega]
    refine ⟨fun h1 => (by rw [hB.1.1] at h1; cases h1), fun i hi => ?_⟩
    rw [hB.1.1] at hi
    have hik : i = k := by simpa using hi
    subst hik
    refine ⟨o, h0, h.1, fun u => ?_⟩
    have hE := h.2 u
    have key : ∀ v L', Sub Lc L' → mixS P Q W Lc (picksM l ms) (a.put o.dst v) L' → anyS P md ops Q W Lc (costs ms) (ls.setIfInBounds i true) (a.put o.dst v) L' := fun v L' hs' h' => any_mix hl hsel ms _ _ L' hB.2 hs' h'
    revert hE
    generalize (execOp a.eval o).run P u.w = r
    intro hE
    cases r with
    | ok n w =>
      cases n with
      | value v' => obtain ⟨L', e1, e2, e3⟩ := hE; exact ⟨L', e1, e2, key _ _ e1 e3⟩
      | skip => obtain ⟨L', e1, e2, e3⟩ := hE; exact ⟨L', e1, e2, key _ _ e1 e3⟩
      | enter fn args => exact Calls.mono hE fun e w' ⟨v', L', e0, e1, e2, e3⟩ => ⟨v', L', e0, e1, e2, key _ _ e1 e3⟩
      | _ => exact hE.elim
    | _ => exact hE.elim
  | .two i j :: ms, ls, a, L, hB, hs, h => by
    simp only [movesB, Bool.and_eq_true, decide_eq_true_eq] at hB
    obtain ⟨o, h0⟩ := Option.isSome_iff_exists.1 hB.1.1.2
    obtain ⟨o', h1⟩ := Option.isSome_iff_exists.1 hB.1.2
    have h0' : l[i]? = some o := by rw [hl] at h0; simpa using h0
    have h1' : l[j]? = some o' := by rw [hl] at h1; simpa using h1
    simp only [picksM, List.filterMap_cons, Mv.pick, h0', h1'] at h
    obtain ⟨d, t, ty, ps, af, e, t', ty', ps', af', c, c', rfl, rfl, hde, hz, hz', hR⟩ := h
    rw [show costs (.two i j :: ms) = costs ms + 2 by simp [costs, Mv.cost]; omega]
    exact any_allocs h0 h1 hde hB.1.1.1.2 hB.1.1.1.1 hs hz hz' fun g g' => any_mix hl hsel ms _ _ _ hB.2 (Sub.skip (h := Sub.skip (h := hs))) (hR g g')
theorem region_mixS {id : Nat} {l : List Oper} {a : Act} {L : List Ent} {u : KW W L} (ms : List Mv) (Lc : List Ent) (hs : Sub Lc L) (hm : P.follows .mixedOrders = true) (hB : (Region.noSelect l.toArray && decide (costs ms = l.length) && movesB .any l.toArray ms (Array.replicate l.length false)) = true)
    (h : mixS P Q W Lc (picksM l ms) a L) : (Code.region id l.toArray true).wp P Q a u.w := by
  simp only [Bool.and_eq_true, decide_eq_true_eq] at hB
  refine wp_region_any hm ?_
  have A := any_mix (md := .any) (Q := Q) rfl hB.1.1 ms _ a L hB.2 hs h
  rw [hB.1.2] at A
  have e : l.toArray.size = l.length := by simp
  rw [e]
  exact any_sound _ _ _ L u.drew A
end
section
variable {P : Program} {Q : Exit → Act → World → Prop} {r : List St} {a : Act} {W : World} {L L' Lc : List Ent} {d : Tmp} {t ty : TypeId} {ps : String} {af : Array Edge} {x y : Operand}
theorem sm_nil (h : ∀ u : KW W L, Q .normal a u.w) : mixS P Q W Lc [] a L := h
theorem sm_value {op : Op} {d : Option Tmp} {v : Value} (hv : ∀ w, (execOp a.eval ⟨d, op, ty, ps, af, none⟩).run P w = .ok (.value v) w) (h : mixS P Q W Lc r (a.put d v) L) : mixS P Q W Lc (.take ⟨d, op, ty, ps, af, none⟩ :: r) a L :=
  ⟨rfl, v, fun L hL u => by rw [hv]; exact ⟨L, hL, ⟨u, rfl⟩, rfl, rfl⟩, h⟩
theorem sm_load {g o : Nat} {c c' : Array Value} {t' : TypeId} (hx : a.eval x = .pointer (some ⟨g, o, none⟩)) (hp : Has Lc g c t') (hq : Part P t c o c') (h : mixS P Q W Lc r (a.put (some d) (.agg c')) L) : mixS P Q W Lc (.take ⟨some d, .load t x, ty, ps, af, none⟩ :: r) a L := by
  refine ⟨rfl, .agg c', fun L hL u => ?_, h⟩
  have hp' : Has L g c t' := ⟨hL.out.subset hp.out⟩
  unfold execOp
  simp only [hx, Sem.run_bind, run_loadAt_part u hp' hq, Result.andThen_ok, Sem.run_pure]
  exact ⟨L, hL, ⟨u, rfl⟩, rfl, rfl⟩
theorem sm_call {op : Op} {d : Option Tmp} {f : FuncId} {args : Array Value} {v : Value} (he : ∀ w, (execOp a.eval ⟨d, op, ty, ps, af, none⟩).run P w = .ok (.enter f args) w) (hc : ∀ L, ∀ u : KW W L, Calls P f args u.w (Ret v u.w)) (h : mixS P Q W Lc r (a.put d v) L) : mixS P Q W Lc (.take ⟨d, op, ty, ps, af, none⟩ :: r) a L := by
  refine ⟨rfl, v, fun L hL u => ?_, h⟩
  rw [he]
  refine (hc _ u).mono fun e w' ⟨h1, hb⟩ => ?_
  obtain ⟨u', hu'⟩ := u.go hb
  exact ⟨v, L, h1, hL, ⟨u', hu'⟩, rfl, rfl⟩
theorem so_value {op : Op} {d : Option Tmp} {v : Value} (hs : Sub Lc L) (hv : ∀ w, (execOp a.eval ⟨d, op, ty, ps, af, none⟩).run P w = .ok (.value v) w) (h : mixS P Q W Lc r (a.put d v) L) : mixS P Q W Lc (.sole ⟨d, op, ty, ps, af, none⟩ :: r) a L :=
  ⟨rfl, fun u => by rw [hv]; exact ⟨L, hs, ⟨u, rfl⟩, h⟩⟩
theorem so_load {g o : Nat} {c c' : Array Value} {t' : TypeId} (hs : Sub Lc L) (hx : a.eval x = .pointer (some ⟨g, o, none⟩)) (hp : Has L g c t') (hq : Part P t c o c') (h : mixS P Q W Lc r (a.put (some d) (.agg c')) L) : mixS P Q W Lc (.sole ⟨some d, .load t x, ty, ps, af, none⟩ :: r) a L := by
  refine ⟨rfl, fun u => ?_⟩
  unfold execOp
  simp only [hx, Sem.run_bind, run_loadAt_part u hp hq, Result.andThen_ok, Sem.run_pure]
  exact ⟨L, hs, ⟨u, rfl⟩, h⟩
theorem so_store {g o : Nat} {c c' c'' : Array Value} {t' : TypeId} (hx : a.eval x = .pointer (some ⟨g, o, none⟩)) (hy : a.eval y = .agg c') (hp : Has L g c t') (hq : PutP P t c o c' c'') (hL : PutAll L g c'' c L') (hs : Sub Lc L')
    (h : mixS P Q W Lc r a L') : mixS P Q W Lc (.sole ⟨none, .store t x y, ty, ps, af, none⟩ :: r) a L := by
  refine ⟨rfl, fun u => ?_⟩
  obtain ⟨u', hu'⟩ := ex_part u hp hq hL
  unfold execOp
  simp only [hx, hy, Instr.storeAt, Instr.sureAddr, Sem.run_bind, Sem.run_pure, Result.andThen_ok, hu']
  exact ⟨L', hs, ⟨u', rfl⟩, h⟩
theorem so_alloc {c : Array Value} (hz : ZeroC P t c) (hs : Sub Lc L) (h : ∀ g, mixS P Q W Lc r (a.put (some d) (.pointer (some ⟨g, 0, none⟩))) (⟨g, c, t⟩ :: L)) : mixS P Q W Lc (.sole ⟨some d, .alloc t, ty, ps, af, none⟩ :: r) a L := by
  refine ⟨rfl, fun u => ?_⟩
  obtain ⟨i, hi, hz'⟩ := Option.map_eq_some_iff.1 hz.out
  obtain ⟨v, hv, rfl⟩ := Option.map_eq_some_iff.1 hz'
  have hr : (Instr.alloc t true (.tuple #[])).run P u.w = .ok (.pointer (some ⟨u.w.heap.size, 0, none⟩)) (u.alloc v.cells t).w := by
    simp [Instr.alloc, zeroValue, typeInfo, hi, hv, newVar, newRow, KW.alloc, go_sem]
  unfold execOp
  simp only [Sem.run_bind, hr, Result.andThen_ok, Sem.run_pure]
  exact ⟨_, Sub.skip (h := hs), ⟨u.alloc v.cells t, rfl⟩, h _⟩
theorem so_two {d e : Nat} {t t' ty ty' : TypeId} {ps ps' : String} {af af' : Array Edge} {c c' : Array Value} (hde : d ≠ e) (hz : ZeroC P t c) (hz' : ZeroC P t' c')
    (h : ∀ g g', mixS P Q W Lc r ((a.put (some d) (.pointer (some ⟨g, 0, none⟩))).put (some e) (.pointer (some ⟨g', 0, none⟩))) (⟨g', c', t'⟩ :: ⟨g, c, t⟩ :: L)) : mixS P Q W Lc (.two ⟨some d, .alloc t, ty, ps, af, none⟩ ⟨some e, .alloc t', ty', ps', af', none⟩ :: r) a L :=
  ⟨d, t, ty, ps, af, e, t', ty', ps', af', c, c', rfl, rfl, hde, hz, hz', h⟩
theorem so_call {op : Op} {d : Option Tmp} {f : FuncId} {args : Array Value} {v : Value} (hs : Sub Lc L) (he : ∀ w, (execOp a.eval ⟨d, op, ty, ps, af, none⟩).run P w = .ok (.enter f args) w) (hc : ∀ u : KW W L, Calls P f args u.w (Ret v u.w)) (h : mixS P Q W Lc r (a.put d v) L) : mixS P Q W Lc (.sole ⟨d, op, ty, ps, af, none⟩ :: r) a L := by
  refine ⟨rfl, fun u => ?_⟩
  rw [he]
  refine (hc u).mono fun e w' ⟨h1, hb⟩ => ?_
  obtain ⟨u', hu'⟩ := u.go hb
  exact ⟨v, L, h1, hs, ⟨u', hu'⟩, h⟩
end
/-! ### a chain of calls beside which one alloc may come at any place: ms1 the chain, i the alloc, ms2 what waits for it -/
section
variable {P : Program} {ops : Array Oper} {md : Region.Mode} {Q : Exit → Act → World → Prop} {S : World → Prop} {W : World} {L Lc : List Ent}
def floatB (md : Region.Mode) (ops : Array Oper) (i : Nat) (ms2 : List (Bool × Nat)) : List (Bool × Nat) → Array Bool → Bool
  | [], ls => decide (Region.ready md ops ls = [i]) && (ops[i]?).isSome && mixB md ops ms2 (ls.setIfInBounds i true)
  | (true, k) :: r, ls => (Region.ready md ops ls).contains k && Region.free md ops ls k && (ops[k]?).isSome && floatB md ops i ms2 r (ls.setIfInBounds k true)
  | (false, k) :: r, ls => (Region.ready md ops ls).all (fun j => j == i || j == k) && !(Region.ready md ops ls).isEmpty && (ops[k]?).isSome && (ops[i]?).isSome && floatB md ops i ms2 r (ls.setIfInBounds k true) && mixB md ops ((false, k) :: r ++ ms2) (ls.setIfInBounds i true)
def floatT (P : Program) (ops : Array Oper) (S : World → Prop) (Q : Exit → Act → World → Prop) (oi : Oper) (ms2 : List (Bool × Oper)) : List (Bool × Oper) → Act → World → Prop
  | [], a, w => Region.wanted oi (yielded ops a.tmps) = true ∧ oi.wp P a w (fun a' w' => S w' ∧ mixT P ops S Q ms2 a' w') Q
  | (true, o) :: r, a, w => ∃ v, YieldsIf P ops S o v a ∧ floatT P ops S Q oi ms2 r (a.put o.dst v) w
  | (false, o) :: r, a, w => (Region.wanted o (yielded ops a.tmps) = true ∧ o.wp P a w (fun a' w' => S w' ∧ floatT P ops S Q oi ms2 r a' w') Q) ∧
      (Region.wanted oi (yielded ops a.tmps) = true ∧ oi.wp P a w (fun a' w' => S w' ∧ mixT P ops S Q ((false, o) :: r ++ ms2) a' w') Q)
theorem picks_append (l : List Oper) (m1 m2 : List (Bool × Nat)) : picks l (m1 ++ m2) = picks l m1 ++ picks l m2 := by simp [picks]
theorem held_float {l : List Oper} {i : Nat} {oi : Oper} {ms2 : List (Bool × Nat)} (hl : ops = l.toArray) (hsel : Region.noSelect ops = true) (hQ : ∀ c a w d v, Q (.panic c) (Act.put a d v) w → Q (.panic c) a w) (hoi : ops[i]? = some oi) :
    ∀ (ms : List (Bool × Nat)) (ls : Array Bool) (a : Act) (w : World), floatB md ops i ms2 ms ls = true → S w → floatT P ops S Q oi (picks l ms2) (picks l ms) a w → wpAnyH P md ops Q S (ms.length + ms2.length + 1) ls a w
  | [], ls, a, w, hB, hS, h => by
    simp only [floatB, Bool.and_eq_true, decide_eq_true_eq] at hB
    rw [List.length_nil, Nat.zero_add]
    refine ⟨fun h1 => (by rw [hB.1.1] at h1; cases h1), fun j hj => ?_⟩
    rw [hB.1.1] at hj
    have hji : j = i := by simpa using hj
    subst hji
    have hw : wpOp P ops Q j (fun a' w' => S w' ∧ mixT P ops S Q (picks l ms2) a' w') a w := by
      unfold wpOp
      simp only [hoi]
      rw [if_pos h.1]
      exact Or.inl h.2
    exact wpOp_mono (fun a' w' h' => ⟨h'.1, held_mix hl hsel hQ ms2 _ a' w' hB.2 h'.1 h'.2⟩) hw
  | (true, k) :: ms, ls, a, w, hB, hS, h => by
    simp only [floatB, Bool.and_eq_true] at hB
    obtain ⟨o, h0⟩ := Option.isSome_iff_exists.1 hB.1.2
    have h0' : l[k]? = some o := by rw [hl] at h0; simpa using h0
    simp only [picks, List.filterMap_cons, h0', Option.map_some] at h
    obtain ⟨v, hy, hR⟩ := h
    rw [List.length_cons, show ms.length + 1 + ms2.length + 1 = (ms.length + ms2.length + 1) + 1 by omega]
    exact wpAnyH_take h0 hsel hB.1.1.2 hB.1.1.1 (fun c a w h => hQ c a w _ _ h) hy hS (held_float hl hsel hQ hoi ms _ _ w hB.2 hS hR)
  | (false, k) :: ms, ls, a, w, hB, hS, h => by
    simp only [floatB, Bool.and_eq_true] at hB
    obtain ⟨o, h0⟩ := Option.isSome_iff_exists.1 hB.1.1.1.2
    have h0' : l[k]? = some o := by rw [hl] at h0; simpa using h0
    simp only [picks, List.filterMap_cons, h0', Option.map_some] at h
    rw [List.length_cons, show ms.length + 1 + ms2.length + 1 = (ms.length + ms2.length + 1) + 1 by omega]
    refine ⟨fun h1 => ?_, fun j hj => ?_⟩
    · have := hB.1.1.1.1.2
      rw [h1] at this
      simp at this
    · have hall := List.all_eq_true.1 hB.1.1.1.1.1 j hj
      by_cases hji : j = i
      · subst hji
        have hw : wpOp P ops Q j (fun a' w' => S w' ∧ mixT P ops S Q (picks l ((false, k) :: ms ++ ms2)) a' w') a w := by
          unfold wpOp
          simp only [hoi]
          rw [if_pos h.2.1, picks_append]
          simp only [picks, List.filterMap_cons, h0', Option.map_some]
          exact Or.inl h.2.2
        refine wpOp_mono (fun a' w' h' => ⟨h'.1, ?_⟩) hw
        have := held_mix hl hsel hQ _ _ a' w' hB.2 h'.1 h'.2
        rw [List.cons_append, List.length_cons, List.length_append] at this
        exact this
      · have hjk : j = k := by simpa [hji] using hall
        subst hjk
        have hw : wpOp P ops Q j (fun a' w' => S w' ∧ floatT P ops S Q oi (picks l ms2) (picks l ms) a' w') a w := by
          unfold wpOp
          simp only [h0]
          rw [if_pos h.1.1]
          exact Or.inl h.1.2
        exact wpOp_mono (fun a' w' h' => ⟨h'.1, held_float hl hsel hQ hoi ms _ a' w' hB.1.2 h'.1 h'.2⟩) hw
theorem region_float {id : Nat} {l : List Oper} {a : Act} {u : KW W L} (ms1 : List (Bool × Nat)) (i : Nat) (ms2 : List (Bool × Nat)) (oi : Oper) (Lc : List Ent) (hs : Sub Lc L) (hm : P.follows .mixedOrders = true) (hoi : l[i]? = some oi)
    (hB : (Region.noSelect l.toArray && decide (ms1.length + ms2.length + 1 = l.length) && floatB .any l.toArray i ms2 ms1 (Array.replicate l.length false)) = true) (hQ : ∀ c a w d v, Q (.panic c) (Act.put a d v) w → Q (.panic c) a w)
    (h : ∀ u' : KW W L, Below u.w.heap.size u.w u'.w → floatT P l.toArray (Known W Lc) Q oi (picks l ms2) (picks l ms1) a u'.w) : (Code.region id l.toArray true).wp P Q a u.w := by
  simp only [Bool.and_eq_true, decide_eq_true_eq] at hB
  refine wp_region_held (S := Known W Lc) hm ?_
  have A := held_float (md := .any) (Q := Q) rfl hB.1.1 hQ (show l.toArray[i]? = some oi by simpa using hoi) ms1 _ a u.drew.w hB.2 (KW.weak (h := hs) u.drew) (h u.drew (Below.drew (Below.refl _ _)))
  rw [hB.1.2] at A
  have e : l.toArray.size = l.length := by simp
  rw [e]
  exact A
end
section
variable {P : Program} {ops : Array Oper} {Q : Exit → Act → World → Prop} {a : Act} {S : World → Prop} {w : World} {W : World} {L Lc : List Ent} {u : KW W L} {d : Tmp} {t ty : TypeId} {ps : String} {af : Array Edge} {x : Operand} {oi : Oper} {m2 mr : List (Bool × Oper)} {gd : Option (Nat × Bool)}
theorem wp_enters {op : Op} {d : Option Tmp} {f : FuncId} {args : Array Value} {K : Act → World → Prop} (he : (execOp a.eval ⟨d, op, ty, ps, af, gd⟩).run P w = .ok (.enter f args) w)
    (h : Calls P f args w fun e w' => ∃ v, e = .returned v ∧ S w' ∧ K (a.put d v) w') : (⟨d, op, ty, ps, af, gd⟩ : Oper).wp P a w (fun a' w' => S w' ∧ K a' w') Q := by
  unfold Oper.wp
  rw [he]
  refine Calls.mono h fun e w' ⟨v, h0, h1, h2⟩ => ?_
  subst h0
  exact ⟨h1, h2⟩
theorem wp_allocs {c : Array Value} {K : Act → World → Prop} (hz : ZeroC P t c) (hs : Sub Lc L) (h : ∀ (g : Nat) (u' : KW W (⟨g, c, t⟩ :: L)), Below u.w.heap.size u.w u'.w → K (a.put (some d) (.pointer (some ⟨g, 0, none⟩))) u'.w) :
    (⟨some d, .alloc t, ty, ps, af, gd⟩ : Oper).wp P a u.w (fun a' w' => Known W Lc w' ∧ K a' w') Q := by
  obtain ⟨i, hi, hz'⟩ := Option.map_eq_some_iff.1 hz.out
  obtain ⟨v, hv, rfl⟩ := Option.map_eq_some_iff.1 hz'
  have hr : (Instr.alloc t true (.tuple #[])).run P u.w = .ok (.pointer (some ⟨u.w.heap.size, 0, none⟩)) (u.alloc v.cells t).w := by
    simp [Instr.alloc, zeroValue, typeInfo, hi, hv, newVar, newRow, KW.alloc, go_sem]
  unfold Oper.wp execOp
  simp only [Sem.run_bind, hr, Result.andThen_ok, Sem.run_pure]
  exact ⟨KW.weak (h := Sub.skip (h := hs)) (u.alloc v.cells t), h _ _ ((Below.refl _ _).alloc (Nat.le_refl _) _)⟩
theorem fl_nil (hw : Region.wanted oi (yielded ops a.tmps) = true) (h : oi.wp P a w (fun a' w' => S w' ∧ mixT P ops S Q m2 a' w') Q) : floatT P ops S Q oi m2 [] a w := ⟨hw, h⟩
theorem fl_take {o : Oper} {v : Value} (hv : YieldsIf P ops S o v a) (h : floatT P ops S Q oi m2 mr (a.put o.dst v) w) : floatT P ops S Q oi m2 ((true, o) :: mr) a w := ⟨v, hv, h⟩
theorem fl_value {op : Op} {d : Option Tmp} {v : Value} (hw : Region.wanted ⟨d, op, ty, ps, af, gd⟩ (yielded ops a.tmps) = true) (hv : ∀ w, (execOp a.eval ⟨d, op, ty, ps, af, gd⟩).run P w = .ok (.value v) w) (h : floatT P ops S Q oi m2 mr (a.put d v) w) : floatT P ops S Q oi m2 ((true, ⟨d, op, ty, ps, af, gd⟩) :: mr) a w :=
  ⟨v, Or.inl ⟨hw, fun w _ => hv w⟩, h⟩
theorem fl_load {g o : Nat} {c c' : Array Value} {t' : TypeId} (hw : Region.wanted ⟨some d, .load t x, ty, ps, af, gd⟩ (yielded ops a.tmps) = true) (hx : a.eval x = .pointer (some ⟨g, o, none⟩)) (hp : Has Lc g c t') (hq : Part P t c o c')
    (h : floatT P ops (Known W Lc) Q oi m2 mr (a.put (some d) (.agg c')) w) : floatT P ops (Known W Lc) Q oi m2 ((true, ⟨some d, .load t x, ty, ps, af, gd⟩) :: mr) a w := by
  refine ⟨.agg c', Or.inl ⟨hw, ?_⟩, h⟩
  rintro w ⟨u, rfl⟩
  unfold execOp
  simp only [hx, Sem.run_bind, run_loadAt_part u hp hq, Result.andThen_ok, Sem.run_pure]
theorem fl_both {o : Oper} (hw : Region.wanted o (yielded ops a.tmps) = true) (hw' : Region.wanted oi (yielded ops a.tmps) = true) (he : oi.wp P a w (fun a' w' => S w' ∧ mixT P ops S Q ((false, o) :: mr ++ m2) a' w') Q) (h : o.wp P a w (fun a' w' => S w' ∧ floatT P ops S Q oi m2 mr a' w') Q) : floatT P ops S Q oi m2 ((false, o) :: mr) a w :=
  ⟨⟨hw, h⟩, hw', he⟩
theorem mx_only {o : Oper} (hw : Region.wanted o (yielded ops a.tmps) = true) (h : o.wp P a w (fun a' w' => S w' ∧ mixT P ops S Q mr a' w') Q) : mixT P ops S Q ((false, o) :: mr) a w := ⟨hw, h⟩
end
/-! results that lie in variables -/
section
variable {P : Program} {fn : Func} {R : Ending → World → Prop} {tmps : Array Value} {W : World} {L : List Ent} {u : KW W L} {ty : TypeId} {p q : Tmp} {g : Nat} {c : Array Value} {t : TypeId}
theorem bd_cell (hf : fn.results = #[.cell p ty]) (hp : tmps.getD p undef = .pointer (some ⟨g, 0, none⟩)) (h : Has L g c t) (hr : Cel P ty c) (hR : R (.returned (.agg c)) u.w) :
    bodyPost P fn R .ret ⟨tmps, []⟩ u.w := body_cell hf hp hr.row rfl hR
theorem bd_cell_tmp {v : Value} (hf : fn.results = #[.cell p ty, .tmp q]) (hp : tmps.getD p undef = .pointer (some ⟨g, 0, none⟩)) (hq : tmps.getD q undef = v) (h : Has L g c t) (hr : Cel P ty c)
    (hR : R (.returned (.tuple #[.agg c, v])) u.w) : bodyPost P fn R .ret ⟨tmps, []⟩ u.w := body_cell_tmp hf hp hq hr.row rfl hR
end
end KM

/- Numbers with a sign: plain facts. -/
namespace SignM
open WideM
def sg (s : Bool) (n : Nat) : Int := if s = true then -(n : Int) else n
/-- is it below 0? -/
def ng (z : Int) : Bool := decide (z < 0)
def fitI (z : Int) : Bool := decide (z.natAbs < M)
def lowI (z : Int) : Int := if z.natAbs < M then z else 0
theorem sg_f (n : Nat) : sg false n = n := rfl
theorem sg_t (n : Nat) : sg true n = -(n : Int) := rfl
theorem sg_abs (s : Bool) (n : Nat) : (sg s n).natAbs = n := by cases s <;> simp [sg]
theorem sg_ng (z : Int) : sg (ng z) z.natAbs = z := by
  unfold sg ng
  by_cases h : z < 0
  · simp only [h, decide_true, if_true]; omega
  · simp only [h, decide_false, Bool.false_eq_true, if_false]; omega
theorem ng_sg (s : Bool) (n : Nat) : ng (sg s n) = (s && !eqB n 0) := by
  cases s
  · rw [sg_f]; unfold ng; rw [decide_eq_false (by omega)]; rfl
  · rw [sg_t]
    unfold ng eqB
    by_cases h : n = 0
    · subst h; rfl
    · rw [decide_eq_true (by omega), decide_eq_false h]; rfl
theorem low_fit {z : Int} (h : z.natAbs < M) : lowI z = z := if_pos h
theorem low_big {z : Int} (h : ¬ z.natAbs < M) : lowI z = 0 := if_neg h
theorem lowI_lt (z : Int) : (lowI z).natAbs < M := by unfold lowI; split; assumption; exact M_pos
theorem fit_yes {z : Int} (h : z.natAbs < M) : fitI z = true := decide_eq_true h
theorem fit_no {z : Int} (h : ¬ z.natAbs < M) : fitI z = false := decide_eq_false h
/-- numbers of both signs: the sum is what is between them -/
theorem sg_apart {s t : Bool} {a b : Nat} (h : s ≠ t) (hab : b ≤ a) : sg s (a - b) = sg s a + sg t b := by
  cases s <;> cases t <;> first | exact absurd rfl h | (simp only [sg_t, sg_f]; omega)
theorem sg_same (s : Bool) (a b : Nat) : sg s (a + b) = sg s a + sg s b := by
  cases s <;> simp only [sg_t, sg_f] <;> omega
theorem sg_mul (s t : Bool) (a b : Nat) : sg (s != t) (a * b) = sg s a * sg t b := by
  cases s <;> cases t <;> simp [sg, Int.mul_neg, Int.neg_mul]
theorem sg_not (s : Bool) (a : Nat) : sg (!s) a = - sg s a := by cases s <;> simp [sg]
end SignM

/- Numbers with a sign as values: how they lie in memory, are built, read and compared. -/
namespace Go.Proofs.Ytpcbnciihohdjaa.SignW
open Go.RowKit
open DigM WideM WideV KM DigW WideW QuotW QuotM DecM FmtW
/-- the cells of a number with a sign -/
def ic (s : Bool) (n : Nat) : Array Value := #[.bool s, .int .u64 (wd n 0 : Nat), .int .u64 (wd n 1 : Nat), .int .u64 (wd n 2 : Nat), .int .u64 (wd n 3 : Nat), .int .u64 (wd n 4 : Nat), .int .u64 (wd n 5 : Nat), .int .u64 (wd n 6 : Nat), .int .u64 (wd n 7 : Nat)]
abbrev iv (s : Bool) (n : Nat) : Value := .agg (ic s n)
theorem ic_size (s : Bool) (n : Nat) : (ic s n).size = 9 := rfl
@[simp] theorem ic_0 (s : Bool) (n : Nat) : (ic s n)[0]? = some (.bool s) := rfl
@[simp] theorem ic_0' (s : Bool) (n : Nat) (h : 0 < (ic s n).size) : (ic s n)[0]'h = .bool s := rfl
theorem rowI (s : Bool) (n : Nat) : Row Try.prog 26 (ic s n).size := ⟨by kernel_rfl, by kernel_rfl⟩
instance celW (n : Nat) : Cel Try.prog 24 (cells 8 n) := ⟨by rw [cells_size]; exact rowW, cells_one _ _⟩
instance celI (s : Bool) (n : Nat) : Cel Try.prog 26 (ic s n) := ⟨rowI s n, by kernel_rfl⟩
instance partI (s : Bool) (n : Nat) : Part Try.prog 24 (ic s n) 1 (cells 8 n) := ⟨by rw [cells_size]; exact rowW, fun j hj => by
  rw [cells_size] at hj
  rw [cells_get hj]
  match j, hj with
  | 0, _ => rfl | 1, _ => rfl | 2, _ => rfl | 3, _ => rfl | 4, _ => rfl | 5, _ => rfl | 6, _ => rfl | 7, _ => rfl⟩
instance putW (m n : Nat) : PutP Try.prog 24 (cells 8 m) 0 (cells 8 n) (cells 8 n) := PutP.of inferInstance (by simp)
instance putI (s t : Bool) (m n : Nat) : PutP Try.prog 26 (ic s m) 0 (ic t n) (ic t n) := PutP.of inferInstance rfl
instance putIW (s : Bool) (m n : Nat) : PutP Try.prog 24 (ic s m) 1 (cells 8 n) (ic s n) := ⟨by rw [cells_size]; exact rowW, cells_one _ _, by rw [cells_size]; exact Nat.le_refl 9, by kernel_rfl⟩
instance zerW : ZeroC Try.prog 24 (cells 8 0) := ⟨zeroW⟩
instance zerI : ZeroC Try.prog 26 (ic false 0) := ⟨by unfold KM.Zero; kernel_rfl⟩
instance putIs (s b : Bool) (n : Nat) : PutV Try.prog 4 (ic s n) 0 (.bool b) (ic b n) := ⟨by kernel_rfl, rfl, rfl, by rw [ic_size]; decide, rfl⟩
section
variable {ops : Array Oper} {Q : Exit → Act → World → Prop} {rest : List Oper} {a : Act} {w : World} {d : Option Tmp} {ty : TypeId} {ps : String} {af : Array Edge} {gd : Option (Nat × Bool)} {x y : Operand} {s : Bool} {n : Nat}
theorem exec_mag {g : Nat} (hx : a.eval x = .pointer (some ⟨g, 0, none⟩)) (w : World) : (execOp a.eval ⟨d, .fieldAddr 26 x 1, ty, ps, af, gd⟩).run Try.prog w = .ok (.value (.pointer (some ⟨g, 1, none⟩))) w := by
  unfold execOp
  simp only [hx]
  go_simp
theorem exec_field1 {g : Nat} (hx : a.eval x = .pointer (some ⟨g, 0, none⟩)) (w : World) : (execOp a.eval ⟨d, .fieldAddr 26 x 1, ty, ps, af, gd⟩).run Try.prog w = .ok (.value (.pointer (some ⟨g, 1, none⟩))) w := exec_mag hx w
theorem exec_field0 {g : Nat} (hx : a.eval x = .pointer (some ⟨g, 0, none⟩)) (w : World) : (execOp a.eval ⟨d, .fieldAddr 26 x 0, ty, ps, af, gd⟩).run Try.prog w = .ok (.value (.pointer (some ⟨g, 0, none⟩))) w := by
  unfold execOp
  simp only [hx]
  go_simp
theorem exec_I (hx : a.eval x = .bool s) (hy : a.eval y = .agg (cells 8 n)) (w : World) : (execOp a.eval ⟨d, .build 26 #[(0, x), (1, y)], ty, ps, af, gd⟩).run Try.prog w = .ok (.value (.agg (ic s n))) w :=
  exec_build (by simp only [List.map_toArray, List.map_cons, List.map_nil, hx, hy]; kernel_rfl) w
theorem exec_I1 (hy : a.eval y = .agg (cells 8 n)) (w : World) : (execOp a.eval ⟨d, .build 26 #[(1, y)], ty, ps, af, gd⟩).run Try.prog w = .ok (.value (.agg (ic false n))) w :=
  exec_build (by simp only [List.map_toArray, List.map_cons, List.map_nil, hy]; kernel_rfl) w
theorem exec_I0 (w : World) : (execOp a.eval ⟨d, .build 26 #[], ty, ps, af, gd⟩).run Try.prog w = .ok (.value (.agg (ic false 0))) w := exec_build (by kernel_rfl) w
theorem exec_W0 (w : World) : (execOp a.eval ⟨d, .build 24 #[], ty, ps, af, gd⟩).run Try.prog w = .ok (.value (.agg (cells 8 0))) w := exec_build (by kernel_rfl) w
theorem exec_W1 (hy : a.eval y = .int .u64 (n : Nat)) (hn : n < B) (w : World) : (execOp a.eval ⟨d, .build 24 #[(0, y)], ty, ps, af, gd⟩).run Try.prog w = .ok (.value (.agg (cells 8 n))) w := by
  have h0 : cells 8 (put 0 0 n) = (cells 8 0).setIfInBounds 0 (.int .u64 (n : Nat)) := (cells_set hn).symm
  rw [put_small (by simp), Nat.zero_add, Nat.pow_zero, Nat.one_mul] at h0
  have hb : Try.prog.built 24 [(0, .int .u64 (n : Nat))] = some ((cells 8 0).setIfInBounds 0 (.int .u64 (n : Nat))) := by kernel_rfl
  rw [← h0] at hb
  exact exec_build (by simp only [List.map_toArray, List.map_cons, List.map_nil, hy]; exact hb) w
theorem ls_I (hx : a.eval x = .bool s) (hy : a.eval y = .agg (cells 8 n)) (h : wpList Try.prog ops Q rest (a.put d (.agg (ic s n))) w) : wpList Try.prog ops Q (⟨d, .build 26 #[(0, x), (1, y)], ty, ps, af, none⟩ :: rest) a w := ls_value (exec_I hx hy w) h
theorem ls_I1 (hy : a.eval y = .agg (cells 8 n)) (h : wpList Try.prog ops Q rest (a.put d (.agg (ic false n))) w) : wpList Try.prog ops Q (⟨d, .build 26 #[(1, y)], ty, ps, af, none⟩ :: rest) a w := ls_value (exec_I1 hy w) h
theorem ls_I0 (h : wpList Try.prog ops Q rest (a.put d (.agg (ic false 0))) w) : wpList Try.prog ops Q (⟨d, .build 26 #[], ty, ps, af, none⟩ :: rest) a w := ls_value (exec_I0 w) h
theorem lsg_I0 (hw : Region.wanted ⟨d, .build 26 #[], ty, ps, af, gd⟩ (yielded ops a.tmps) = true) (h : wpList Try.prog ops Q rest (a.put d (.agg (ic false 0))) w) : wpList Try.prog ops Q (⟨d, .build 26 #[], ty, ps, af, gd⟩ :: rest) a w := lsg_value hw (exec_I0 w) h
theorem ls_W0 (h : wpList Try.prog ops Q rest (a.put d (.agg (cells 8 0))) w) : wpList Try.prog ops Q (⟨d, .build 24 #[], ty, ps, af, none⟩ :: rest) a w := ls_value (exec_W0 w) h
theorem ls_W1 (hy : a.eval y = .int .u64 (n : Nat)) (hn : Hid (n < B)) (h : wpList Try.prog ops Q rest (a.put d (.agg (cells 8 n))) w) : wpList Try.prog ops Q (⟨d, .build 24 #[(0, y)], ty, ps, af, none⟩ :: rest) a w := ls_value (exec_W1 hy hn.out w) h
end
@[simp] theorem fieldI0 (s : Bool) (n : Nat) (w : World) : (Instr.field 26 (.agg (ic s n)) 0).run Try.prog w = .ok (.bool s) w := by
  have hp : Try.prog.plainKey 4 = true := by kernel_rfl
  have hu : Try.prog.underlying 26 = some (.struct (Try.prog.fieldsOf 26)) := by kernel_rfl
  have h0 : (Try.prog.fieldsOf 26)[0]?.map (fun f => (f.type, f.offset)) = some (4, 0) := by kernel_rfl
  obtain ⟨f, hf, hf'⟩ := Option.map_eq_some_iff.1 h0
  obtain ⟨e1, e2⟩ := Prod.mk.inj hf'
  simp only [Instr.field, Sem.run_bind, run_underlying hu, Result.andThen_ok, hf, e1, e2]
  simp only [asAgg, Sem.run_pure, Result.andThen_ok, run_part_plain w hp (ic_0 s n)]
theorem eqlW_d (d : Nat) (a b : Nat) (ha : a < M) (hb : b < M) (w : World) : (Op.equalIn (d + 2) 24 (.agg (cells 8 a)) (.agg (cells 8 b))).run Try.prog w = .ok (eqB a b) w := by
  have hu := Try.underlying24
  have he := Try.underlying22
  have hc : Try.prog.cellsOf 22 = 1 := by kernel_rfl
  obtain ⟨i, hi⟩ := info_of_underlying he
  rw [run_equalIn_array w (d + 1) (cells 8 a) (cells 8 b) hu hi, hc, eqItems_words d he w 8 a b _ (fun i hi => List.mem_range.1 hi)]
  refine congrArg (fun b => Result.ok b w) ?_
  unfold eqB
  rw [Bool.eq_iff_iff, List.all_eq_true, decide_eq_true_eq]
  refine ⟨fun h => ext_words ha hb fun i hi => by simpa using h i (List.mem_range.2 hi), fun h => ?_⟩
  subst h
  intro i _
  simp
/-- two numbers with a sign are the same -/
theorem eqlI (s t : Bool) (a b : Nat) (ha : a < M) (hb : b < M) (w : World) : (Op.equalIn 10000 26 (.agg (ic s a)) (.agg (ic t b))).run Try.prog w = .ok (s == t && eqB a b) w := by
  have hS : Try.prog.underlying 26 = some (.struct (Try.prog.fieldsOf 26)) := by kernel_rfl
  have hF : (Try.prog.fieldsOf 26).toList.map (fun f => (f.name ≠ "_" : Bool) && (f.type, f.offset) == (f.type, f.offset)) = [true, true] := by kernel_rfl
  have hF2 : (Try.prog.fieldsOf 26).toList.map (fun f => (f.type, f.offset)) = [(4, 0), (24, 1)] := by kernel_rfl
  rw [show (10000 : Nat) = 9999 + 1 from rfl, run_equalIn_struct w 9999 _ _ _ hS (by kernel_rfl)]
  generalize (Try.prog.fieldsOf 26).toList = fs at hF hF2
  obtain ⟨f, fs1, rfl, e1, hF2⟩ := List.map_eq_cons_iff.1 hF2
  obtain ⟨g, fs2, rfl, e2, hF2⟩ := List.map_eq_cons_iff.1 hF2
  obtain rfl := List.map_eq_nil_iff.1 hF2
  simp only [List.map_cons, List.map_nil, List.cons.injEq, Prod.mk.injEq, and_true, beq_self_eq_true, Bool.and_true, decide_eq_true_eq] at hF e1 e2
  obtain ⟨f1, f2⟩ := e1
  obtain ⟨g1, g2⟩ := e2
  have hp : Try.prog.plainKey 4 = true := by kernel_rfl
  have hW : ∀ (s : Bool) (n : Nat) (w : World), (part 24 (ic s n) 1).run Try.prog w = .ok (.agg (cells 8 n)) w := fun s n w => by
    rw [run_part_row rowW, show (ic s n).extract 1 (1 + 8) = cells 8 n by kernel_rfl]
  simp only [Op.eqFields, if_pos hF.1, if_pos hF.2, Sem.run_bind, f1, f2, g1, g2, run_part_plain w hp (ic_0 _ _), Result.andThen_ok, run_equalIn_bool w 9998 4 s t Try.underlying4]
  by_cases h : s = t
  · subst h
    have e := eqlW_d 9997 a b ha hb w
    rw [beq_self_eq_true, Bool.true_and, Bool.not_true, if_neg (by decide)]
    simp only [Sem.run_bind, hW, Result.andThen_ok]
    rw [show (9999 : Nat) = 9997 + 2 from rfl, e]
    cases eqB a b <;> rfl
  · have h' : (s == t) = false := by simpa using h
    simp [h']
theorem selfW_d (d : Nat) (a : Nat) (w : World) : (Op.equalIn (d + 2) 24 (.agg (cells 8 a)) (.agg (cells 8 a))).run Try.prog w = .ok true w := by
  have hu := Try.underlying24
  have he := Try.underlying22
  have hc : Try.prog.cellsOf 22 = 1 := by kernel_rfl
  obtain ⟨i, hi⟩ := info_of_underlying he
  rw [run_equalIn_array w (d + 1) (cells 8 a) (cells 8 a) hu hi, hc, eqItems_words d he w 8 a a _ (fun i hi => List.mem_range.1 hi)]
  simp
@[simp] theorem selfI (s : Bool) (a : Nat) (w : World) : (Op.equalIn 10000 26 (.agg (ic s a)) (.agg (ic s a))).run Try.prog w = .ok true w := by
  have hS : Try.prog.underlying 26 = some (.struct (Try.prog.fieldsOf 26)) := by kernel_rfl
  have hF : (Try.prog.fieldsOf 26).toList.map (fun f => (f.name ≠ "_" : Bool) && (f.type, f.offset) == (f.type, f.offset)) = [true, true] := by kernel_rfl
  have hF2 : (Try.prog.fieldsOf 26).toList.map (fun f => (f.type, f.offset)) = [(4, 0), (24, 1)] := by kernel_rfl
  rw [show (10000 : Nat) = 9999 + 1 from rfl, run_equalIn_struct w 9999 _ _ _ hS (by kernel_rfl)]
  generalize (Try.prog.fieldsOf 26).toList = fs at hF hF2
  obtain ⟨f, fs1, rfl, e1, hF2⟩ := List.map_eq_cons_iff.1 hF2
  obtain ⟨g, fs2, rfl, e2, hF2⟩ := List.map_eq_cons_iff.1 hF2
  obtain rfl := List.map_eq_nil_iff.1 hF2
  simp only [List.map_cons, List.map_nil, List.cons.injEq, Prod.mk.injEq, and_true, beq_self_eq_true, Bool.and_true, decide_eq_true_eq] at hF e1 e2
  obtain ⟨f1, f2⟩ := e1
  obtain ⟨g1, g2⟩ := e2
  have hp : Try.prog.plainKey 4 = true := by kernel_rfl
  have hW : ∀ (s : Bool) (n : Nat) (w : World), (part 24 (ic s n) 1).run Try.prog w = .ok (.agg (cells 8 n)) w := fun s n w => by
    rw [run_part_row rowW, show (ic s n).extract 1 (1 + 8) = cells 8 n by kernel_rfl]
  simp only [Op.eqFields, if_pos hF.1, if_pos hF.2, Sem.run_bind, f1, f2, g1, g2, run_part_plain w hp (ic_0 _ _), Result.andThen_ok, run_equalIn_bool w 9998 4 s s Try.underlying4]
  have e := selfW_d 9997 a w
  rw [beq_self_eq_true, Bool.not_true, if_neg (by decide)]
  simp only [Sem.run_bind, hW, Result.andThen_ok]
  rw [show (9999 : Nat) = 9997 + 2 from rfl, e]
  rfl
end Go.Proofs.Ytpcbnciihohdjaa.SignW

/- package sign: contracts over the translation. -/
namespace Go.Proofs.Ytpcbnciihohdjaa.SignW
open Go.RowKit
open DigM WideM WideV KM DigW WideW QuotW QuotM DecM FmtW SignM
/-- a number with a sign that may be -/
abbrev nv (z : Int) : Value := iv (ng z) z.natAbs
theorem nv_sg (s : Bool) (n : Nat) : nv (sg s n) = iv (s && !eqB n 0) n := by unfold nv; rw [ng_sg, sg_abs]
set_option maxRecDepth 100000 in
set_option maxHeartbeats 3200000 in
theorem told_any (s : Bool) (n : Nat) (hn : Hid (n < M)) (w : World) : Calls Try.prog 61 #[.bool s, wv n] w (Ret (nv (sg s n)) w) := by
  have HZ := Lib.hid (fun w => zero_any n hn.out w)
  rw [nv_sg]
  refine enter fun u => ?_
  go_enter Try.func61, Try.ntmps61
  go_wp2_with (first
    | ((with_reducible apply list_box); exact rfl; intro _ _)
    | ((with_reducible apply ls_alloc); infer_instance; intro _ _))
  try simp only [Act.put, List.setIfInBounds_toArray, List.set_cons_succ, List.set_cons_zero]
  cases s
  · refine region_mix [(true, 0), (true, 1), (true, 2), (true, 6), (true, 3), (true, 4), (true, 5), (true, 7), (false, 8)] _ (Sub.skip (h := Sub.both (h := Sub.nil))) (by kernel_rfl) (by kernel_rfl) (fun _ _ _ _ _ h => by first | (simp only [Exit.then, bodyPost, defers_put] at h ⊢; exact h) | (simp only [Exit.then, Exit.inBlock, bodyPost, defers_put] at h ⊢; exact h)) ?_
    intro u2 _
    simp only [picks, List.filterMap_cons, List.filterMap_nil, List.getElem?_cons_zero, List.getElem?_cons_succ, Option.map_some]
    refine mixg_value (v := .bool false) (by rfl) (by intro w; go_simp) ?_
    try simp only [Act.put, List.setIfInBounds_toArray, List.set_cons_succ, List.set_cons_zero]
    refine mixg_value (v := .bool false) (by rfl) (by intro w; go_simp) ?_
    try simp only [Act.put, List.setIfInBounds_toArray, List.set_cons_succ, List.set_cons_zero]
    refine mixg_skip ?hsk ?_
    case hsk => rfl
    try simp only [Act.put, List.setIfInBounds_toArray, List.set_cons_succ, List.set_cons_zero]
    refine mixg_part (by rfl) rfl inferInstance inferInstance ?_
    try simp only [Act.put, List.setIfInBounds_toArray, List.set_cons_succ, List.set_cons_zero]
    refine mixg_skip ?hsk ?_
    case hsk => rfl
    try simp only [Act.put, List.setIfInBounds_toArray, List.set_cons_succ, List.set_cons_zero]
    refine mixg_skip ?hsk ?_
    case hsk => rfl
    try simp only [Act.put, List.setIfInBounds_toArray, List.set_cons_succ, List.set_cons_zero]
    refine mixg_value (v := .bool false) (by rfl) (by intro w; go_simp) ?_
    try simp only [Act.put, List.setIfInBounds_toArray, List.set_cons_succ, List.set_cons_zero]
    refine mixg_value (v := iv false n) (by rfl) (exec_I rfl rfl) ?_
    try simp only [Act.put, List.setIfInBounds_toArray, List.set_cons_succ, List.set_cons_zero]
    refine mixg_store (by rfl) rfl rfl inferInstance inferInstance inferInstance inferInstance fun u4 => ?_
    refine mix_nil ?_
    go_wp2_with (fail)
    exact bd_cell Try.results61 rfl inferInstance inferInstance ⟨rfl, KW.below _⟩
  · refine region_mix [(true, 0), (true, 1), (true, 2), (true, 6), (false, 3), (true, 4), (true, 5), (true, 7), (false, 8)] _ (Sub.skip (h := Sub.both (h := Sub.nil))) (by kernel_rfl) (by kernel_rfl) (fun _ _ _ _ _ h => by first | (simp only [Exit.then, bodyPost, defers_put] at h ⊢; exact h) | (simp only [Exit.then, Exit.inBlock, bodyPost, defers_put] at h ⊢; exact h)) ?_
    intro u2 _
    simp only [picks, List.filterMap_cons, List.filterMap_nil, List.getElem?_cons_zero, List.getElem?_cons_succ, Option.map_some]
    refine mixg_value (v := .bool true) (by rfl) (by intro w; go_simp) ?_
    try simp only [Act.put, List.setIfInBounds_toArray, List.set_cons_succ, List.set_cons_zero]
    refine mixg_value (v := .bool true) (by rfl) (by intro w; go_simp) ?_
    try simp only [Act.put, List.setIfInBounds_toArray, List.set_cons_succ, List.set_cons_zero]
    refine mixg_part (by rfl) rfl inferInstance inferInstance ?_
    try simp only [Act.put, List.setIfInBounds_toArray, List.set_cons_succ, List.set_cons_zero]
    refine mixg_part (by rfl) rfl inferInstance inferInstance ?_
    try simp only [Act.put, List.setIfInBounds_toArray, List.set_cons_succ, List.set_cons_zero]
    refine mixg_enter (f := 27) (args := #[wv n]) (by rfl) (by go_simp) ?_
    refine (HZ.out _).mono ?_
    rintro e w' ⟨rfl, hb'⟩
    obtain ⟨u3, rfl⟩ := u2.go hb'
    refine ⟨_, rfl, KW.weak (h := inferInstance) u3, ?_⟩
    clear hb'
    try simp only [Act.put, List.setIfInBounds_toArray, List.set_cons_succ, List.set_cons_zero]
    refine mixg_value (v := .bool (!eqB n 0)) (by rfl) (by intro w; go_simp) ?_
    try simp only [Act.put, List.setIfInBounds_toArray, List.set_cons_succ, List.set_cons_zero]
    refine mixg_value (v := .bool (!eqB n 0)) (by rfl) (by intro w; go_simp) ?_
    try simp only [Act.put, List.setIfInBounds_toArray, List.set_cons_succ, List.set_cons_zero]
    refine mixg_value (v := iv (!eqB n 0) n) (by rfl) (exec_I rfl rfl) ?_
    try simp only [Act.put, List.setIfInBounds_toArray, List.set_cons_succ, List.set_cons_zero]
    refine mixg_store (by rfl) rfl rfl inferInstance inferInstance inferInstance inferInstance fun u4 => ?_
    refine mix_nil ?_
    go_wp2_with (fail)
    exact bd_cell Try.results61 rfl inferInstance inferInstance ⟨rfl, KW.below _⟩
theorem two_ret (z : Int) (h1 : -9223372036854775808 ≤ z) (h2 : z ≤ 9223372036854775807) (w : World) : Calls Try.prog 57 #[.int .i64 z] w (Ret (.tuple #[.bool (ng z), .int .u64 (z.natAbs : Nat)]) w) :=
  (two_any z w h1 h2).mono fun e w' ⟨he, hw⟩ => ⟨he, by rw [← hw]; exact Below.refl _ _⟩
set_option maxRecDepth 100000 in
set_option maxHeartbeats 3200000 in
theorem sof_any (z : Int) (h1 : -9223372036854775808 ≤ z) (h2 : z ≤ 9223372036854775807) (w : World) : Calls Try.prog 29 #[.int .i64 z] w (Ret (nv z) w) := by
  have H2 := Lib.hid (fun w => two_ret z h1 h2 w)
  have HO := Lib.hid (fun w => of_any z.natAbs (Lib.hid (by omega)) w)
  unfold nv
  generalize ng z = s at *
  generalize z.natAbs = n at *
  refine enter fun u => ?_
  go_enter Try.func29, Try.ntmps29
  go_wp2_with (first
    | ((with_reducible apply ls_alloc); infer_instance; intro _ _)
    | ((with_reducible apply ls_store); exact rfl; exact rfl; infer_instance; infer_instance; infer_instance; intro _)
    | ((with_reducible apply ls_I); exact rfl; exact rfl)
    | (go_at_call 57; (with_reducible refine (H2.out _).mono ?_); rintro e w' ⟨rfl, hb'⟩; obtain ⟨_, rfl⟩ := KW.go _ hb'; clear hb')
    | (go_at_call 30; (with_reducible refine (HO.out _).mono ?_); rintro e w' ⟨rfl, hb'⟩; obtain ⟨_, rfl⟩ := KW.go _ hb'; clear hb'))
  exact bd_cell Try.results29 rfl inferInstance inferInstance ⟨rfl, KW.below _⟩
set_option maxRecDepth 100000 in
set_option maxHeartbeats 3200000 in
theorem fix_any (s : Bool) (n : Nat) (hn : Hid (n < M)) (w : World) : Calls Try.prog 56 #[iv s n] w (Ret (nv (sg s n)) w) := by
  have HT := Lib.hid (fun w => told_any s n hn w)
  refine enter fun u => ?_
  go_enter Try.func56, Try.ntmps56
  go_wp2_with (first
    | ((with_reducible apply list_box); exact rfl; intro _ _)
    | ((with_reducible apply ls_alloc); infer_instance; intro _ _)
    | ((with_reducible apply ls_load); exact rfl; infer_instance; infer_instance)
    | ((with_reducible apply ls_store); exact rfl; exact rfl; infer_instance; infer_instance; infer_instance; intro _)
    | (go_at_call 61; (with_reducible refine (HT.out _).mono ?_); rintro e w' ⟨rfl, hb'⟩; obtain ⟨_, rfl⟩ := KW.go _ hb'; clear hb'))
  exact bd_cell Try.results56 rfl inferInstance inferInstance ⟨rfl, KW.below _⟩
theorem wsub_some (a b : Nat) (ha : Hid (a < M)) (hb : Hid (b < M)) (h : b ≤ a) (w : World) : Calls Try.prog 71 #[wv a, wv b] w (Ret (.tuple #[wv (a - b), .bool true]) w) := by
  have h1 := wsub_any a b ha hb w
  rwa [show subL a b = a - b by unfold subL low; rw [show a + M - b = a - b + M by omega, Nat.add_mod_right, Nat.mod_eq_of_lt (by have := ha.out; omega)], show leB b a = true from decide_eq_true h] at h1
set_option maxRecDepth 100000 in
set_option maxHeartbeats 3200000 in
theorem apart_any (s t : Bool) (a b : Nat) (ha : Hid (a < M)) (hb : Hid (b < M)) (h : s ≠ t) (w : World) : Calls Try.prog 59 #[iv s a, iv t b] w (Ret (nv (sg s a + sg t b)) w) := by
  have HC := fun w => wcmp_any a b ha hb w
  by_cases hab : a < b
  · rw [cmpI_lt hab] at HC
    have HC := Lib.hid HC
    have HS := Lib.hid (fun w => wsub_some b a hb ha (by omega) w)
    have HT := Lib.hid (fun w => told_any t (b - a) (Lib.hid (by have := hb.out; omega)) w)
    rw [Int.add_comm, ← sg_apart (Ne.symm h) (by omega : a ≤ b)]
    generalize b - a = d at *
    refine enter fun u => ?_
    go_enter Try.func59, Try.ntmps59
    go_wp2_with (first
      | ((with_reducible apply list_box); exact rfl; intro _ _)
      | ((with_reducible apply ls_alloc); infer_instance; intro _ _)
      | ((with_reducible apply ls_load); exact rfl; infer_instance; infer_instance)
      | ((with_reducible apply ls_store); exact rfl; exact rfl; infer_instance; infer_instance; infer_instance; intro _)
      | (go_at_call 63; (with_reducible refine (HC.out _).mono ?_); rintro e w' ⟨rfl, hb'⟩; obtain ⟨_, rfl⟩ := KW.go _ hb'; clear hb')
      | (go_at_call 71; (with_reducible refine (HS.out _).mono ?_); rintro e w' ⟨rfl, hb'⟩; obtain ⟨_, rfl⟩ := KW.go _ hb'; clear hb')
      | (go_at_call 61; (with_reducible refine (HT.out _).mono ?_); rintro e w' ⟨rfl, hb'⟩; obtain ⟨_, rfl⟩ := KW.go _ hb'; clear hb'))
    exact bd_cell Try.results59 rfl inferInstance inferInstance ⟨rfl, KW.below _⟩
  · have hc : ¬ cmpI a b < 0 := by unfold cmpI; rw [if_neg hab]; split <;> omega
    generalize cmpI a b = c at *
    have HC := Lib.hid HC
    have HS := Lib.hid (fun w => wsub_some a b ha hb (by omega) w)
    have HT := Lib.hid (fun w => told_any s (a - b) (Lib.hid (by have := ha.out; omega)) w)
    rw [← sg_apart h (by omega : b ≤ a)]
    generalize a - b = d at *
    refine enter fun u => ?_
    go_enter Try.func59, Try.ntmps59
    go_wp2_with (first
      | ((with_reducible apply list_box); exact rfl; intro _ _)
      | ((with_reducible apply ls_alloc); infer_instance; intro _ _)
      | ((with_reducible apply ls_load); exact rfl; infer_instance; infer_instance)
      | ((with_reducible apply ls_store); exact rfl; exact rfl; infer_instance; infer_instance; infer_instance; intro _)
      | (go_at_call 63; (with_reducible refine (HC.out _).mono ?_); rintro e w' ⟨rfl, hb'⟩; obtain ⟨_, rfl⟩ := KW.go _ hb'; clear hb')
      | (go_at_call 71; (with_reducible refine (HS.out _).mono ?_); rintro e w' ⟨rfl, hb'⟩; obtain ⟨_, rfl⟩ := KW.go _ hb'; clear hb')
      | (go_at_call 61; (with_reducible refine (HT.out _).mono ?_); rintro e w' ⟨rfl, hb'⟩; obtain ⟨_, rfl⟩ := KW.go _ hb'; clear hb'))
    exact bd_cell Try.results59 rfl inferInstance inferInstance ⟨rfl, KW.below _⟩
end Go.Proofs.Ytpcbnciihohdjaa.SignW

/- package sign: sum, difference, product, order: contracts over the translation. -/
namespace Go.Proofs.Ytpcbnciihohdjaa.SignW
open Go.RowKit
open DigM WideM WideV KM DigW WideW QuotW QuotM DecM FmtW SignM
/-- a number and whether it fits -/
abbrev fv (z : Int) : Value := .tuple #[nv (lowI z), .bool (fitI z)]
theorem fv_fit {z : Int} (h : z.natAbs < M) : fv z = .tuple #[nv z, .bool true] := by unfold fv; rw [low_fit h, fit_yes h]
theorem fv_big {z : Int} (h : ¬ z.natAbs < M) : fv z = .tuple #[iv false 0, .bool false] := by unfold fv; rw [low_big h, fit_no h]; rfl
theorem wadd_fit (a b : Nat) (ha : Hid (a < M)) (hb : Hid (b < M)) (h : a + b < M) (w : World) : Calls Try.prog 60 #[wv a, wv b] w (Ret (.tuple #[wv (a + b), .bool true]) w) := by
  have h1 := wadd_any a b ha hb w
  rwa [low_of h, show fitB (a + b) = true from decide_eq_true h] at h1
theorem wadd_big (a b : Nat) (ha : Hid (a < M)) (hb : Hid (b < M)) (h : ¬ a + b < M) (w : World) : Calls Try.prog 60 #[wv a, wv b] w (Ret (.tuple #[wv (low (a + b)), .bool false]) w) := by
  have h1 := wadd_any a b ha hb w
  rwa [show fitB (a + b) = false from decide_eq_false h] at h1
theorem wmul_fit (a b : Nat) (ha : Hid (a < M)) (hb : Hid (b < M)) (h : a * b < M) (w : World) : Calls Try.prog 40 #[wv a, wv b] w (Ret (.tuple #[wv (a * b), .bool true]) w) := by
  have h1 := wmul_any a b ha hb w
  rwa [low_of h, show fitB (a * b) = true from decide_eq_true h] at h1
theorem wmul_big (a b : Nat) (ha : Hid (a < M)) (hb : Hid (b < M)) (h : ¬ a * b < M) (w : World) : Calls Try.prog 40 #[wv a, wv b] w (Ret (.tuple #[wv (low (a * b)), .bool false]) w) := by
  have h1 := wmul_any a b ha hb w
  rwa [show fitB (a * b) = false from decide_eq_false h] at h1
theorem apart_lt {s t : Bool} {a b : Nat} (ha : a < M) (hb : b < M) (h : s ≠ t) : (sg s a + sg t b).natAbs < M := by
  cases s <;> cases t <;> first | exact absurd rfl h | (simp only [sg_t, sg_f]; omega)
set_option maxRecDepth 100000 in
set_option maxHeartbeats 3200000 in
theorem sadd_any (s t : Bool) (a b : Nat) (ha : Hid (a < M)) (hb : Hid (b < M)) (w : World) : Calls Try.prog 38 #[iv s a, iv t b] w (Ret (fv (sg s a + sg t b)) w) := by
  by_cases h : s = t
  · subst h
    rw [← sg_same]
    by_cases hf : a + b < M
    · rw [fv_fit (by rw [sg_abs]; exact hf)]
      have HA := Lib.hid (fun w => wadd_fit a b ha hb hf w)
      have HT := Lib.hid (fun w => told_any s (a + b) (Lib.hid hf) w)
      generalize a + b = d at *
      generalize sg s d = z at *
      refine enter fun u => ?_
      go_enter Try.func38, Try.ntmps38
      go_wp2_with (first
        | ((with_reducible apply list_box); exact rfl; intro _ _)
        | ((with_reducible apply ls_alloc); infer_instance; intro _ _)
        | ((with_reducible apply ls_load); exact rfl; infer_instance; infer_instance)
        | ((with_reducible apply ls_store); exact rfl; exact rfl; infer_instance; infer_instance; infer_instance; intro _)
        | (go_at_call 60; (with_reducible refine (HA.out _).mono ?_); rintro e w' ⟨rfl, hb'⟩; obtain ⟨_, rfl⟩ := KW.go _ hb'; clear hb')
        | (go_at_call 61; (with_reducible refine (HT.out _).mono ?_); rintro e w' ⟨rfl, hb'⟩; obtain ⟨_, rfl⟩ := KW.go _ hb'; clear hb'))
      exact bd_cell_tmp Try.results38 rfl rfl inferInstance inferInstance ⟨rfl, KW.below _⟩
    · rw [fv_big (by rw [sg_abs]; exact hf)]
      have HA := Lib.hid (fun w => wadd_big a b ha hb hf w)
      generalize low (a + b) = d at *
      refine enter fun u => ?_
      go_enter Try.func38, Try.ntmps38
      go_wp2_with (first
        | ((with_reducible apply list_box); exact rfl; intro _ _)
        | ((with_reducible apply ls_alloc); infer_instance; intro _ _)
        | ((with_reducible apply ls_load); exact rfl; infer_instance; infer_instance)
        | ((with_reducible apply ls_store); exact rfl; exact rfl; infer_instance; infer_instance; infer_instance; intro _)
        | (with_reducible apply ls_I0)
        | (go_at_call 60; (with_reducible refine (HA.out _).mono ?_); rintro e w' ⟨rfl, hb'⟩; obtain ⟨_, rfl⟩ := KW.go _ hb'; clear hb'))
      exact bd_cell_tmp Try.results38 rfl rfl inferInstance inferInstance ⟨rfl, KW.below _⟩
  · have hn : (s != t) = true := by simpa using h
    have HA := Lib.hid (fun w => apart_any s t a b ha hb h w)
    rw [fv_fit (apart_lt ha.out hb.out h)]
    generalize sg s a + sg t b = z at *
    cases s <;> cases t <;> first | exact absurd rfl h | skip
    · refine enter fun u => ?_
      go_enter Try.func38, Try.ntmps38
      go_wp2_with (first
        | ((with_reducible apply list_box); exact rfl; intro _ _)
        | ((with_reducible apply ls_alloc); infer_instance; intro _ _)
        | ((with_reducible apply ls_load); exact rfl; infer_instance; infer_instance)
        | ((with_reducible apply ls_store); exact rfl; exact rfl; infer_instance; infer_instance; infer_instance; intro _)
        | (go_at_call 59; (with_reducible refine (HA.out _).mono ?_); rintro e w' ⟨rfl, hb'⟩; obtain ⟨_, rfl⟩ := KW.go _ hb'; clear hb'))
      exact bd_cell_tmp Try.results38 rfl rfl inferInstance inferInstance ⟨rfl, KW.below _⟩
    · refine enter fun u => ?_
      go_enter Try.func38, Try.ntmps38
      go_wp2_with (first
        | ((with_reducible apply list_box); exact rfl; intro _ _)
        | ((with_reducible apply ls_alloc); infer_instance; intro _ _)
        | ((with_reducible apply ls_load); exact rfl; infer_instance; infer_instance)
        | ((with_reducible apply ls_store); exact rfl; exact rfl; infer_instance; infer_instance; infer_instance; intro _)
        | (go_at_call 59; (with_reducible refine (HA.out _).mono ?_); rintro e w' ⟨rfl, hb'⟩; obtain ⟨_, rfl⟩ := KW.go _ hb'; clear hb'))
      exact bd_cell_tmp Try.results38 rfl rfl inferInstance inferInstance ⟨rfl, KW.below _⟩
theorem nv_lt {z : Int} (h : z.natAbs < M) : (-z).natAbs < M := by omega
set_option maxRecDepth 100000 in
set_option maxHeartbeats 3200000 in
theorem smul_any (s t : Bool) (a b : Nat) (ha : Hid (a < M)) (hb : Hid (b < M)) (w : World) : Calls Try.prog 41 #[iv s a, iv t b] w (Ret (fv (sg s a * sg t b)) w) := by
  rw [← sg_mul]
  obtain ⟨r, hr⟩ : ∃ r, r = (s != t) := ⟨_, rfl⟩
  rw [← hr]
  by_cases hf : a * b < M
  · rw [fv_fit (by rw [sg_abs]; exact hf)]
    have HA := Lib.hid (fun w => wmul_fit a b ha hb hf w)
    have HT := Lib.hid (fun w => told_any r (a * b) (Lib.hid hf) w)
    generalize a * b = d at *
    generalize sg r d = z at *
    refine enter fun u => ?_
    go_enter Try.func41, Try.ntmps41
    cases s <;> cases t
    all_goals (
      first | (obtain rfl : r = true := hr) | (obtain rfl : r = false := hr)
      go_wp2_with (first
        | ((with_reducible apply list_box); exact rfl; intro _ _)
        | ((with_reducible apply ls_alloc); infer_instance; intro _ _)
        | ((with_reducible apply ls_load); exact rfl; infer_instance; infer_instance)
        | ((with_reducible apply ls_store); exact rfl; exact rfl; infer_instance; infer_instance; infer_instance; intro _)
        | (go_at_call 40; (with_reducible refine (HA.out _).mono ?_); rintro e w' ⟨rfl, hb'⟩; obtain ⟨_, rfl⟩ := KW.go _ hb'; clear hb')
        | (go_at_call 61; (with_reducible refine (HT.out _).mono ?_); rintro e w' ⟨rfl, hb'⟩; obtain ⟨_, rfl⟩ := KW.go _ hb'; clear hb'))
      exact bd_cell_tmp Try.results41 rfl rfl inferInstance inferInstance ⟨rfl, KW.below _⟩)
  · rw [fv_big (by rw [sg_abs]; exact hf)]
    clear hr r
    have HA := Lib.hid (fun w => wmul_big a b ha hb hf w)
    generalize low (a * b) = d at *
    refine enter fun u => ?_
    go_enter Try.func41, Try.ntmps41
    go_wp2_with (first
      | ((with_reducible apply list_box); exact rfl; intro _ _)
      | ((with_reducible apply ls_alloc); infer_instance; intro _ _)
      | ((with_reducible apply ls_load); exact rfl; infer_instance; infer_instance)
      | ((with_reducible apply ls_store); exact rfl; exact rfl; infer_instance; infer_instance; infer_instance; intro _)
      | (with_reducible apply ls_I0)
      | (go_at_call 40; (with_reducible refine (HA.out _).mono ?_); rintro e w' ⟨rfl, hb'⟩; obtain ⟨_, rfl⟩ := KW.go _ hb'; clear hb'))
    exact bd_cell_tmp Try.results41 rfl rfl inferInstance inferInstance ⟨rfl, KW.below _⟩
/-- how a number lies to 0 -/
def cmpZ (z : Int) : Int := if z < 0 then -1 else if z = 0 then 0 else 1
theorem cmpZ_pos {a b : Nat} : cmpI a b = cmpZ ((a : Int) - b) := by
  unfold cmpI cmpZ
  by_cases h : a < b
  · rw [if_pos h, if_pos (by omega)]
  · rw [if_neg h, if_neg (show ¬ ((a : Int) - b < 0) by omega)]
    by_cases h2 : a = b
    · rw [if_pos h2, if_pos (by omega)]
    · rw [if_neg h2, if_neg (by omega)]
set_option maxRecDepth 100000 in
set_option maxHeartbeats 3200000 in
theorem scmp_nv (x y : Int) (hx : Hid (x.natAbs < M)) (hy : Hid (y.natAbs < M)) (s t : Bool) (a b : Nat) (hs : sg s a = x) (ht : sg t b = y) (ha : Hid (a < M)) (hb : Hid (b < M)) (w : World) : Calls Try.prog 42 #[iv s a, iv t b] w (Ret (.int .i64 (cmpZ (x - y))) w) := by
  have HX := Lib.hid (fun w => fix_any s a ha w)
  have HY := Lib.hid (fun w => fix_any t b hb w)
  rw [hs] at HX
  rw [ht] at HY
  unfold nv at HX HY
  have HC := fun w => wcmp_any x.natAbs y.natAbs hx hy w
  have HD := fun w => wcmp_any y.natAbs x.natAbs hy hx w
  have e1 : ng x = true → ng y = true → cmpI y.natAbs x.natAbs = cmpZ (x - y) := fun h1 h2 => by
    have h1 := of_decide_eq_true h1
    have h2 := of_decide_eq_true h2
    rw [cmpZ_pos]; congr 1; omega
  have e2 : ng x = false → ng y = false → cmpI x.natAbs y.natAbs = cmpZ (x - y) := fun h1 h2 => by
    have h1 := of_decide_eq_false h1
    have h2 := of_decide_eq_false h2
    rw [cmpZ_pos]; congr 1; omega
  have e3 : ng x = true → ng y = false → -1 = cmpZ (x - y) := fun h1 h2 => by
    have h1 := of_decide_eq_true h1
    have h2 := of_decide_eq_false h2
    unfold cmpZ; rw [if_pos (by omega)]
  have e4 : ng x = false → ng y = true → 1 = cmpZ (x - y) := fun h1 h2 => by
    have h1 := of_decide_eq_false h1
    have h2 := of_decide_eq_true h2
    unfold cmpZ; rw [if_neg (by omega), if_neg (by omega)]
  clear hs ht
  generalize cmpZ (x - y) = c at *
  generalize ng x = p at *
  generalize ng y = q at *
  generalize x.natAbs = m at *
  generalize y.natAbs = n at *
  refine enter fun u => ?_
  go_enter Try.func42, Try.ntmps42
  go_wp2_with (first
    | ((with_reducible apply list_box); exact rfl; intro _ _))
  try simp only [Act.put, List.setIfInBounds_toArray, List.set_cons_succ, List.set_cons_zero]
  refine region_tail 4 (by kernel_rfl) (by kernel_rfl) fun _ => ?_
  simp only [List.take_succ_cons, List.take_zero, List.drop_succ_cons, List.drop_zero]
  refine qt_load (by rfl) rfl inferInstance inferInstance ?_
  try simp only [Act.put, List.setIfInBounds_toArray, List.set_cons_succ, List.set_cons_zero]
  refine qt_call (f := 56) (args := #[iv s a]) (by rfl) (by intro w; go_simp) (fun u => HX.out _) ?_
  try simp only [Act.put, List.setIfInBounds_toArray, List.set_cons_succ, List.set_cons_zero]
  refine qt_load (by rfl) rfl inferInstance inferInstance ?_
  try simp only [Act.put, List.setIfInBounds_toArray, List.set_cons_succ, List.set_cons_zero]
  refine qt_call (f := 56) (args := #[iv t b]) (by rfl) (by intro w; go_simp) (fun u => HY.out _) ?_
  try simp only [Act.put, List.setIfInBounds_toArray, List.set_cons_succ, List.set_cons_zero]
  refine wpQuiet_nil ?_
  rintro _ ⟨u3, rfl⟩
  cases p <;> cases q
  · have e := e2 rfl rfl
    rw [e] at HC
    have HC := Lib.hid HC
    go_wp2_with (first
      | ((with_reducible apply ls_load); exact rfl; infer_instance; infer_instance)
      | ((with_reducible apply ls_store); exact rfl; exact rfl; infer_instance; infer_instance; infer_instance; intro _)
      | (go_at_call 63; (with_reducible refine (HC.out _).mono ?_); rintro e w' ⟨rfl, hb'⟩; obtain ⟨_, rfl⟩ := KW.go _ hb'; clear hb'))
    go_ret
    exact ⟨rfl, KW.below _⟩
  · obtain rfl := e4 rfl rfl
    go_wp2_with (first
      | ((with_reducible apply ls_load); exact rfl; infer_instance; infer_instance)
      | ((with_reducible apply ls_store); exact rfl; exact rfl; infer_instance; infer_instance; infer_instance; intro _))
    go_ret
    exact ⟨rfl, KW.below _⟩
  · obtain rfl := e3 rfl rfl
    go_wp2_with (first
      | ((with_reducible apply ls_load); exact rfl; infer_instance; infer_instance)
      | ((with_reducible apply ls_store); exact rfl; exact rfl; infer_instance; infer_instance; infer_instance; intro _))
    go_ret
    exact ⟨rfl, KW.below _⟩
  · have e := e1 rfl rfl
    rw [e] at HD
    have HD := Lib.hid HD
    go_wp2_with (first
      | ((with_reducible apply ls_load); exact rfl; infer_instance; infer_instance)
      | ((with_reducible apply ls_store); exact rfl; exact rfl; infer_instance; infer_instance; infer_instance; intro _)
      | (go_at_call 63; (with_reducible refine (HD.out _).mono ?_); rintro e w' ⟨rfl, hb'⟩; obtain ⟨_, rfl⟩ := KW.go _ hb'; clear hb'))
    go_ret
    exact ⟨rfl, KW.below _⟩
end Go.Proofs.Ytpcbnciihohdjaa.SignW

/- package sign: quotient, as an int, as a text: contracts over the translation. -/
namespace Go.Proofs.Ytpcbnciihohdjaa.SignW
open Go.RowKit
open DigM WideM WideV KM DigW WideW QuotW QuotM DecM FmtW SignM
open Go.Lib (decDigits nDigits)
theorem m_big : 18446744073709551617 < M := by unfold M; rw [B_eq]; decide +kernel
/-- a quotient's size, cut down: s and t the signs -/
def ovq (r : Bool) (a b : Nat) : Nat := if r = true ∧ ¬ a % b = 0 then a / b + 1 else a / b
theorem ovq_lt {r : Bool} {a b : Nat} (ha : a < M) : ovq r a b < M := by
  unfold ovq
  split
  · rename_i h
    have h2 : b ≠ 1 := fun e => h.2 (by rw [e]; exact Nat.mod_one a)
    rcases Nat.lt_or_ge b 1 with hb | hb
    · obtain rfl : b = 0 := by omega
      rw [Nat.div_zero]; have := m_big; omega
    · have h3 : a / b ≤ a / 2 := Nat.div_le_div_left (by omega) (by decide)
      have := m_big
      omega
  · exact Nat.lt_of_le_of_lt (Nat.div_le_self a b) ha
set_option maxRecDepth 100000 in
set_option maxHeartbeats 3200000 in
theorem sover_zero (s t : Bool) (a : Nat) (w : World) : Calls Try.prog 43 #[iv s a, iv t 0] w (Ret (.tuple #[iv false 0, .int .i64 1]) w) := by
  have HO := Lib.hid (fun w => over_zero a w)
  refine enter fun u => ?_
  go_enter Try.func43, Try.ntmps43
  go_wp2_with (first
    | ((with_reducible apply list_box); exact rfl; intro _ _)
    | ((with_reducible apply ls_alloc); infer_instance; intro _ _)
    | ((with_reducible apply ls_load); exact rfl; infer_instance; infer_instance)
    | ((with_reducible apply ls_store); exact rfl; exact rfl; infer_instance; infer_instance; infer_instance; intro _)
    | (with_reducible apply ls_I0)
    | (go_at_call 55; (with_reducible refine (HO.out _).mono ?_); rintro e w' ⟨rfl, hb'⟩; obtain ⟨_, rfl⟩ := KW.go _ hb'; clear hb'))
  exact bd_cell_tmp Try.results43 rfl rfl inferInstance inferInstance ⟨rfl, KW.below _⟩
set_option maxRecDepth 100000 in
set_option maxHeartbeats 6400000 in
theorem sover_some (s t : Bool) (a b : Nat) (ha : Hid (a < M)) (hb : Hid (b < M)) (hp : 0 < b) (w : World) : Calls Try.prog 43 #[iv s a, iv t b] w (Ret (.tuple #[nv (sg (s != t) (ovq (s != t) a b)), .int .i64 0]) w) := by
  have HO := Lib.hid (fun w => over_some a b ha hb hp w)
  obtain ⟨r, hr⟩ : ∃ r, r = (s != t) := ⟨_, rfl⟩
  rw [← hr]
  have HT := Lib.hid (fun w => told_any r (ovq r a b) (Lib.hid (ovq_lt ha.out)) w)
  have hrM : a % b < M := Nat.lt_trans (Nat.mod_lt a hp) hb.out
  have HZ := fun w => zero_any (a % b) hrM w
  clear hrM
  cases r with
  | false =>
    have e : ovq false a b = a / b := if_neg (by simp)
    rw [e] at HT ⊢
    clear e HZ
    generalize a / b = q at *
    generalize a % b = k at *
    generalize sg false q = z at *
    refine enter fun u => ?_
    go_enter Try.func43, Try.ntmps43
    cases s <;> cases t <;> first | exact absurd hr (by decide) | skip
    all_goals (
      clear hr hp ha hb
      go_wp2_with (first
        | ((with_reducible apply list_box); exact rfl; intro _ _)
        | ((with_reducible apply ls_alloc); infer_instance; intro _ _)
        | ((with_reducible apply ls_load); exact rfl; infer_instance; infer_instance)
        | ((with_reducible apply ls_store); exact rfl; exact rfl; infer_instance; infer_instance; infer_instance; intro _)
        | (go_at_call 55; (with_reducible refine (HO.out _).mono ?_); rintro e w' ⟨rfl, hb'⟩; obtain ⟨_, rfl⟩ := KW.go _ hb'; clear hb')
        | (go_at_call 61; (with_reducible refine (HT.out _).mono ?_); rintro e w' ⟨rfl, hb'⟩; obtain ⟨_, rfl⟩ := KW.go _ hb'; clear hb'))
      exact bd_cell_tmp Try.results43 rfl rfl inferInstance inferInstance ⟨rfl, KW.below _⟩)
  | true =>
    by_cases h0 : a % b = 0
    · have e : ovq true a b = a / b := if_neg (by simp [h0])
      rw [e] at HT ⊢
      rw [h0] at HO HZ
      have HZ := Lib.hid HZ
      have hz := eqB_same 0
      rw [hz] at HZ
      clear hz e h0
      generalize a / b = q at *
      generalize sg true q = z at *
      refine enter fun u => ?_
      go_enter Try.func43, Try.ntmps43
      cases s <;> cases t <;> first | exact absurd hr (by decide) | skip
      all_goals (
        clear hr hp ha hb
        go_wp2_with (first
          | ((with_reducible apply list_box); exact rfl; intro _ _)
          | ((with_reducible apply ls_alloc); infer_instance; intro _ _)
          | ((with_reducible apply ls_load); exact rfl; infer_instance; infer_instance)
          | ((with_reducible apply ls_store); exact rfl; exact rfl; infer_instance; infer_instance; infer_instance; intro _)
          | (go_at_call 55; (with_reducible refine (HO.out _).mono ?_); rintro e w' ⟨rfl, hb'⟩; obtain ⟨_, rfl⟩ := KW.go _ hb'; clear hb')
          | (go_at_call 61; (with_reducible refine (HT.out _).mono ?_); rintro e w' ⟨rfl, hb'⟩; obtain ⟨_, rfl⟩ := KW.go _ hb'; clear hb')
          | (go_at_call 27; (with_reducible refine (HZ.out _).mono ?_); rintro e w' ⟨rfl, hb'⟩; obtain ⟨_, rfl⟩ := KW.go _ hb'; clear hb'))
        exact bd_cell_tmp Try.results43 rfl rfl inferInstance inferInstance ⟨rfl, KW.below _⟩)
    · have e : ovq true a b = a / b + 1 := if_pos ⟨rfl, h0⟩
      have hlt := ovq_lt (r := true) (b := b) ha.out
      rw [e] at HT hlt ⊢
      rw [show eqB (a % b) 0 = false from decide_eq_false h0] at HZ
      have HZ := Lib.hid HZ
      have H1 := Lib.hid (fun w => of_any 1 (Lib.hid (by decide)) w)
      have HA := Lib.hid (fun w => wadd_fit (a / b) 1 (Lib.hid (by omega)) (Lib.hid (by have := m_big; omega)) hlt w)
      clear hlt e h0
      generalize a / b + 1 = q1 at *
      generalize a / b = q at *
      generalize a % b = k at *
      generalize sg true q1 = z at *
      refine enter fun u => ?_
      go_enter Try.func43, Try.ntmps43
      cases s <;> cases t <;> first | exact absurd hr (by decide) | skip
      all_goals (
        clear hr hp ha hb
        go_wp2_with (first
          | ((with_reducible apply list_box); exact rfl; intro _ _)
          | ((with_reducible apply ls_alloc); infer_instance; intro _ _)
          | ((with_reducible apply ls_load); exact rfl; infer_instance; infer_instance)
          | ((with_reducible apply ls_store); exact rfl; exact rfl; infer_instance; infer_instance; infer_instance; intro _)
          | (go_at_call 55; (with_reducible refine (HO.out _).mono ?_); rintro e w' ⟨rfl, hb'⟩; obtain ⟨_, rfl⟩ := KW.go _ hb'; clear hb')
          | (go_at_call 61; (with_reducible refine (HT.out _).mono ?_); rintro e w' ⟨rfl, hb'⟩; obtain ⟨_, rfl⟩ := KW.go _ hb'; clear hb')
          | (go_at_call 27; (with_reducible refine (HZ.out _).mono ?_); rintro e w' ⟨rfl, hb'⟩; obtain ⟨_, rfl⟩ := KW.go _ hb'; clear hb'))
        try simp only [Act.put, List.setIfInBounds_toArray, List.set_cons_succ, List.set_cons_zero]
        refine region_mixS [.take 1, .sole 0, .sole 2, .sole 3, .take 4, .take 5, .sole 6] _ (Sub.nil) (by kernel_rfl) (by kernel_rfl) ?_
        simp only [picksM, Mv.pick, List.filterMap_cons, List.filterMap_nil, List.getElem?_cons_zero, List.getElem?_cons_succ, Option.map_some]
        refine sm_call (f := 30) (args := #[.int .u64 1]) (by intro w; go_simp) (fun _ u => H1.out _) ?_
        try simp only [Act.put, List.setIfInBounds_toArray, List.set_cons_succ, List.set_cons_zero]
        refine so_load inferInstance rfl inferInstance inferInstance ?_
        try simp only [Act.put, List.setIfInBounds_toArray, List.set_cons_succ, List.set_cons_zero]
        refine so_call (f := 60) (args := #[wv q, wv 1]) inferInstance (by intro w; go_simp) (fun u => HA.out _) ?_
        try simp only [Act.put, List.setIfInBounds_toArray, List.set_cons_succ, List.set_cons_zero]
        refine so_value (v := .tuple #[wv q1, .bool true]) inferInstance (by intro w; go_simp) ?_
        try simp only [Act.put, List.setIfInBounds_toArray, List.set_cons_succ, List.set_cons_zero]
        refine sm_value (v := wv q1) (by intro w; go_simp) ?_
        try simp only [Act.put, List.setIfInBounds_toArray, List.set_cons_succ, List.set_cons_zero]
        refine sm_value (v := .bool true) (by intro w; go_simp) ?_
        try simp only [Act.put, List.setIfInBounds_toArray, List.set_cons_succ, List.set_cons_zero]
        refine so_store rfl rfl inferInstance inferInstance inferInstance inferInstance ?_
        try simp only [Act.put, List.setIfInBounds_toArray, List.set_cons_succ, List.set_cons_zero]
        refine sm_nil fun u7 => ?_
        go_wp2_with (first
          | ((with_reducible apply list_box); exact rfl; intro _ _)
          | ((with_reducible apply ls_alloc); infer_instance; intro _ _)
          | ((with_reducible apply ls_load); exact rfl; infer_instance; infer_instance)
          | ((with_reducible apply ls_store); exact rfl; exact rfl; infer_instance; infer_instance; infer_instance; intro _)
          | (go_at_call 55; (with_reducible refine (HO.out _).mono ?_); rintro e w' ⟨rfl, hb'⟩; obtain ⟨_, rfl⟩ := KW.go _ hb'; clear hb')
          | (go_at_call 61; (with_reducible refine (HT.out _).mono ?_); rintro e w' ⟨rfl, hb'⟩; obtain ⟨_, rfl⟩ := KW.go _ hb'; clear hb')
          | (go_at_call 27; (with_reducible refine (HZ.out _).mono ?_); rintro e w' ⟨rfl, hb'⟩; obtain ⟨_, rfl⟩ := KW.go _ hb'; clear hb'))
        exact bd_cell_tmp Try.results43 rfl rfl inferInstance inferInstance ⟨rfl, KW.below _⟩)
end Go.Proofs.Ytpcbnciihohdjaa.SignW

/- package sign: as an int, as a text: contracts over the translation. -/
namespace Go.Proofs.Ytpcbnciihohdjaa.SignW
open Go.RowKit
open DigM WideM WideV KM DigW WideW QuotW QuotM DecM FmtW SignM
open Go.Lib (decDigits nDigits)
theorem exec_neW {a : Act} {d : Option Tmp} {ty : TypeId} {ps : String} {af : Array Edge} {gd : Option (Nat × Bool)} {x y : Operand} {m n : Nat} {b : Bool} (hx : a.eval x = .agg (cells 8 m)) (hy : a.eval y = .agg (cells 8 n)) (hm : m < M) (hn : n < M) (hb : eqB m n = b) (w : World) :
    (execOp a.eval ⟨d, .binOp .neq 24 x y 24, ty, ps, af, gd⟩).run Try.prog w = .ok (.value (.bool (!b))) w := by
  have h := eqlW m n hm hn w
  rw [hb] at h
  unfold execOp
  simp only [hx, hy]
  go_simp
theorem ic_word {s : Bool} {n x : Nat} (h : wd n 0 = x) : (ic s n)[1]? = some (.int .u64 (x : Nat)) := by subst h; rfl
def inI (z : Int) : Bool := decide (-9223372036854775808 ≤ z ∧ z ≤ 9223372036854775807)
def smallV (z : Int) : Value := .tuple #[.int .i64 (if inI z then z else 0), .bool (inI z)]
set_option maxRecDepth 100000 in
set_option maxHeartbeats 3200000 in
theorem small_big (s : Bool) (a : Nat) (ha : Hid (a < M)) (h : B ≤ a) (w : World) : Calls Try.prog 50 #[iv s a] w (Ret (.tuple #[.int .i64 0, .bool false]) w) := by
  obtain ⟨x, hx⟩ : ∃ x, wd a 0 = x := ⟨_, rfl⟩
  have h1 := ic_word (s := s) hx
  have hxB : x < B := by rw [← hx]; exact wd_lt a 0
  have hxM : x < M := Nat.lt_trans hxB (by have := m_big; rw [B_eq]; omega)
  have hne : eqB a x = false := decide_eq_false (by omega)
  have HO := Lib.hid (fun w => of_any x (Lib.hid (by rw [← B_eq]; exact hxB)) w)
  have HE : Hid (a < M ∧ x < M ∧ eqB a x = false) := Lib.hid ⟨ha.out, hxM, hne⟩
  clear hx hxB hxM hne h ha
  refine enter fun u => ?_
  go_enter Try.func50, Try.ntmps50
  cases s
  all_goals (
    go_wp2_with (first
      | ((with_reducible apply list_box); exact rfl; intro g1 u1))
    refine region (by kernel_rfl) (by kernel_rfl) fun _ => ?_
    refine qt_value (v := .pointer (some ⟨g1, 1, none⟩)) (by rfl) (by intro w; go_simp) ?_
    try simp only [Act.put, List.setIfInBounds_toArray, List.set_cons_succ, List.set_cons_zero]
    refine qt_load (by rfl) rfl inferInstance inferInstance ?_
    try simp only [Act.put, List.setIfInBounds_toArray, List.set_cons_succ, List.set_cons_zero]
    refine qt_value (v := .int .u64 x) (by rfl) (by intro w; go_simp) ?_
    try simp only [Act.put, List.setIfInBounds_toArray, List.set_cons_succ, List.set_cons_zero]
    refine qt_call (f := 30) (args := #[.int .u64 x]) (by rfl) (by intro w; go_simp) (fun u => HO.out _) ?_
    try simp only [Act.put, List.setIfInBounds_toArray, List.set_cons_succ, List.set_cons_zero]
    refine qt_value (v := .bool true) (by rfl) (exec_neW rfl rfl HE.out.1 HE.out.2.1 HE.out.2.2) ?_
    try simp only [Act.put, List.setIfInBounds_toArray, List.set_cons_succ, List.set_cons_zero]
    refine qt_value (v := .bool true) (by rfl) (by intro w; go_simp) ?_
    try simp only [Act.put, List.setIfInBounds_toArray, List.set_cons_succ, List.set_cons_zero]
    refine qt_skip ?hsk ?_
    case hsk => rfl
    try simp only [Act.put, List.setIfInBounds_toArray, List.set_cons_succ, List.set_cons_zero]
    refine qt_skip ?hsk ?_
    case hsk => rfl
    try simp only [Act.put, List.setIfInBounds_toArray, List.set_cons_succ, List.set_cons_zero]
    refine qt_skip ?hsk ?_
    case hsk => rfl
    try simp only [Act.put, List.setIfInBounds_toArray, List.set_cons_succ, List.set_cons_zero]
    refine qt_value (v := .bool true) (by rfl) (by intro w; go_simp) ?_
    try simp only [Act.put, List.setIfInBounds_toArray, List.set_cons_succ, List.set_cons_zero]
    refine wpQuiet_nil ?_
    rintro _ ⟨u3, rfl⟩
    go_wp2_with (fail)
    go_ret2
    exact ⟨rfl, KW.below _⟩)
set_option maxRecDepth 100000 in
set_option maxHeartbeats 3200000 in
theorem small_small (s : Bool) (a : Nat) (ha : Hid (a < B)) (w : World) : Calls Try.prog 50 #[iv s a] w (Ret (smallV (sg s a)) w) := by
  have h1 := ic_word (s := s) (wd_self ha.out)
  have HB : Hid (a < 18446744073709551616) := Lib.hid (by rw [← B_eq]; exact ha.out)
  have HO := Lib.hid (fun w => of_any a HB w)
  have HE : Hid (a < M) := Lib.hid (Nat.lt_trans ha.out (by have := m_big; rw [B_eq]; omega))
  clear ha
  unfold smallV inI
  refine enter fun u => ?_
  go_enter Try.func50, Try.ntmps50
  cases s
  · have es := sg_f a
    rw [es]
    by_cases h : a ≤ 9223372036854775807
    · have hg : decide ((9223372036854775807 : Int) < (a : Int)) = false := by simp; omega
      have hi : decide (-9223372036854775808 ≤ (a : Int) ∧ (a : Int) ≤ 9223372036854775807) = true := by simp; omega
      rw [hi]
      clear h hi
      go_wp2_with (first
        | ((with_reducible apply list_box); exact rfl; intro g1 u1))
      refine region (by kernel_rfl) (by kernel_rfl) fun _ => ?_
      refine qt_value (v := .pointer (some ⟨g1, 1, none⟩)) (by rfl) (by intro w; go_simp) ?_
      try simp only [Act.put, List.setIfInBounds_toArray, List.set_cons_succ, List.set_cons_zero]
      refine qt_load (by rfl) rfl inferInstance inferInstance ?_
      try simp only [Act.put, List.setIfInBounds_toArray, List.set_cons_succ, List.set_cons_zero]
      refine qt_value (v := .int .u64 a) (by rfl) (by intro w; go_simp) ?_
      try simp only [Act.put, List.setIfInBounds_toArray, List.set_cons_succ, List.set_cons_zero]
      refine qt_call (f := 30) (args := #[.int .u64 a]) (by rfl) (by intro w; go_simp) (fun u => HO.out _) ?_
      try simp only [Act.put, List.setIfInBounds_toArray, List.set_cons_succ, List.set_cons_zero]
      refine qt_value (v := .bool false) (by rfl) (exec_neW rfl rfl HE.out HE.out (eqB_same a)) ?_
      try simp only [Act.put, List.setIfInBounds_toArray, List.set_cons_succ, List.set_cons_zero]
      refine qt_value (v := .bool false) (by rfl) (by intro w; go_simp) ?_
      try simp only [Act.put, List.setIfInBounds_toArray, List.set_cons_succ, List.set_cons_zero]
      refine qt_value (v := .int .u64 a) (by rfl) (by intro w; go_simp) ?_
      try simp only [Act.put, List.setIfInBounds_toArray, List.set_cons_succ, List.set_cons_zero]
      refine qt_value (v := .int .u64 9223372036854775807) (by rfl) (by intro w; go_simp) ?_
      try simp only [Act.put, List.setIfInBounds_toArray, List.set_cons_succ, List.set_cons_zero]
      refine qt_value (v := .bool false) (by rfl) (by intro w; go_simp) ?_
      try simp only [Act.put, List.setIfInBounds_toArray, List.set_cons_succ, List.set_cons_zero]
      refine qt_value (v := .bool false) (by rfl) (by intro w; go_simp) ?_
      try simp only [Act.put, List.setIfInBounds_toArray, List.set_cons_succ, List.set_cons_zero]
      refine wpQuiet_nil ?_
      rintro _ ⟨u3, rfl⟩
      go_wp2_with (fail)
      go_ret2
      exact ⟨ret_two (vint (by unfold wrap64; have := of_decide_eq_false hg; omega)) rfl, KW.below _⟩
    · have hg : decide ((9223372036854775807 : Int) < (a : Int)) = true := by simp; omega
      have hi : decide (-9223372036854775808 ≤ (a : Int) ∧ (a : Int) ≤ 9223372036854775807) = false := by simp; omega
      rw [hi]
      clear h hi
      go_wp2_with (first
        | ((with_reducible apply list_box); exact rfl; intro g1 u1))
      refine region (by kernel_rfl) (by kernel_rfl) fun _ => ?_
      refine qt_value (v := .pointer (some ⟨g1, 1, none⟩)) (by rfl) (by intro w; go_simp) ?_
      try simp only [Act.put, List.setIfInBounds_toArray, List.set_cons_succ, List.set_cons_zero]
      refine qt_load (by rfl) rfl inferInstance inferInstance ?_
      try simp only [Act.put, List.setIfInBounds_toArray, List.set_cons_succ, List.set_cons_zero]
      refine qt_value (v := .int .u64 a) (by rfl) (by intro w; go_simp) ?_
      try simp only [Act.put, List.setIfInBounds_toArray, List.set_cons_succ, List.set_cons_zero]
      refine qt_call (f := 30) (args := #[.int .u64 a]) (by rfl) (by intro w; go_simp) (fun u => HO.out _) ?_
      try simp only [Act.put, List.setIfInBounds_toArray, List.set_cons_succ, List.set_cons_zero]
      refine qt_value (v := .bool false) (by rfl) (exec_neW rfl rfl HE.out HE.out (eqB_same a)) ?_
      try simp only [Act.put, List.setIfInBounds_toArray, List.set_cons_succ, List.set_cons_zero]
      refine qt_value (v := .bool false) (by rfl) (by intro w; go_simp) ?_
      try simp only [Act.put, List.setIfInBounds_toArray, List.set_cons_succ, List.set_cons_zero]
      refine qt_value (v := .int .u64 a) (by rfl) (by intro w; go_simp) ?_
      try simp only [Act.put, List.setIfInBounds_toArray, List.set_cons_succ, List.set_cons_zero]
      refine qt_value (v := .int .u64 9223372036854775807) (by rfl) (by intro w; go_simp) ?_
      try simp only [Act.put, List.setIfInBounds_toArray, List.set_cons_succ, List.set_cons_zero]
      refine qt_value (v := .bool true) (by rfl) (by intro w; go_simp) ?_
      try simp only [Act.put, List.setIfInBounds_toArray, List.set_cons_succ, List.set_cons_zero]
      refine qt_value (v := .bool true) (by rfl) (by intro w; go_simp) ?_
      try simp only [Act.put, List.setIfInBounds_toArray, List.set_cons_succ, List.set_cons_zero]
      refine wpQuiet_nil ?_
      rintro _ ⟨u3, rfl⟩
      go_wp2_with (fail)
      go_ret2
      exact ⟨rfl, KW.below _⟩
  · have es := sg_t a
    rw [es]
    by_cases h : a ≤ 9223372036854775808
    · have hg : decide ((9223372036854775808 : Int) < (a : Int)) = false := by simp; omega
      have hi : decide (-9223372036854775808 ≤ -(a : Int) ∧ -(a : Int) ≤ 9223372036854775807) = true := by simp; omega
      rw [hi]
      clear h hi
      go_wp2_with (first
        | ((with_reducible apply list_box); exact rfl; intro g1 u1))
      refine region (by kernel_rfl) (by kernel_rfl) fun _ => ?_
      refine qt_value (v := .pointer (some ⟨g1, 1, none⟩)) (by rfl) (by intro w; go_simp) ?_
      try simp only [Act.put, List.setIfInBounds_toArray, List.set_cons_succ, List.set_cons_zero]
      refine qt_load (by rfl) rfl inferInstance inferInstance ?_
      try simp only [Act.put, List.setIfInBounds_toArray, List.set_cons_succ, List.set_cons_zero]
      refine qt_value (v := .int .u64 a) (by rfl) (by intro w; go_simp) ?_
      try simp only [Act.put, List.setIfInBounds_toArray, List.set_cons_succ, List.set_cons_zero]
      refine qt_call (f := 30) (args := #[.int .u64 a]) (by rfl) (by intro w; go_simp) (fun u => HO.out _) ?_
      try simp only [Act.put, List.setIfInBounds_toArray, List.set_cons_succ, List.set_cons_zero]
      refine qt_value (v := .bool false) (by rfl) (exec_neW rfl rfl HE.out HE.out (eqB_same a)) ?_
      try simp only [Act.put, List.setIfInBounds_toArray, List.set_cons_succ, List.set_cons_zero]
      refine qt_value (v := .bool false) (by rfl) (by intro w; go_simp) ?_
      try simp only [Act.put, List.setIfInBounds_toArray, List.set_cons_succ, List.set_cons_zero]
      refine qt_value (v := .int .u64 a) (by rfl) (by intro w; go_simp) ?_
      try simp only [Act.put, List.setIfInBounds_toArray, List.set_cons_succ, List.set_cons_zero]
      refine qt_value (v := .int .u64 9223372036854775808) (by rfl) (by intro w; go_simp) ?_
      try simp only [Act.put, List.setIfInBounds_toArray, List.set_cons_succ, List.set_cons_zero]
      refine qt_value (v := .bool false) (by rfl) (by intro w; go_simp) ?_
      try simp only [Act.put, List.setIfInBounds_toArray, List.set_cons_succ, List.set_cons_zero]
      refine qt_value (v := .bool false) (by rfl) (by intro w; go_simp) ?_
      try simp only [Act.put, List.setIfInBounds_toArray, List.set_cons_succ, List.set_cons_zero]
      refine wpQuiet_nil ?_
      rintro _ ⟨u3, rfl⟩
      go_wp2_with (fail)
      go_ret2
      exact ⟨ret_two (vint (by rw [IntKind.wrap_u64]; unfold wrap64; have := of_decide_eq_false hg; omega)) rfl, KW.below _⟩
    · have hg : decide ((9223372036854775808 : Int) < (a : Int)) = true := by simp; omega
      have hi : decide (-9223372036854775808 ≤ -(a : Int) ∧ -(a : Int) ≤ 9223372036854775807) = false := by simp; omega
      rw [hi]
      clear h hi
      go_wp2_with (first
        | ((with_reducible apply list_box); exact rfl; intro g1 u1))
      refine region (by kernel_rfl) (by kernel_rfl) fun _ => ?_
      refine qt_value (v := .pointer (some ⟨g1, 1, none⟩)) (by rfl) (by intro w; go_simp) ?_
      try simp only [Act.put, List.setIfInBounds_toArray, List.set_cons_succ, List.set_cons_zero]
      refine qt_load (by rfl) rfl inferInstance inferInstance ?_
      try simp only [Act.put, List.setIfInBounds_toArray, List.set_cons_succ, List.set_cons_zero]
      refine qt_value (v := .int .u64 a) (by rfl) (by intro w; go_simp) ?_
      try simp only [Act.put, List.setIfInBounds_toArray, List.set_cons_succ, List.set_cons_zero]
      refine qt_call (f := 30) (args := #[.int .u64 a]) (by rfl) (by intro w; go_simp) (fun u => HO.out _) ?_
      try simp only [Act.put, List.setIfInBounds_toArray, List.set_cons_succ, List.set_cons_zero]
      refine qt_value (v := .bool false) (by rfl) (exec_neW rfl rfl HE.out HE.out (eqB_same a)) ?_
      try simp only [Act.put, List.setIfInBounds_toArray, List.set_cons_succ, List.set_cons_zero]
      refine qt_value (v := .bool false) (by rfl) (by intro w; go_simp) ?_
      try simp only [Act.put, List.setIfInBounds_toArray, List.set_cons_succ, List.set_cons_zero]
      refine qt_value (v := .int .u64 a) (by rfl) (by intro w; go_simp) ?_
      try simp only [Act.put, List.setIfInBounds_toArray, List.set_cons_succ, List.set_cons_zero]
      refine qt_value (v := .int .u64 9223372036854775808) (by rfl) (by intro w; go_simp) ?_
      try simp only [Act.put, List.setIfInBounds_toArray, List.set_cons_succ, List.set_cons_zero]
      refine qt_value (v := .bool true) (by rfl) (by intro w; go_simp) ?_
      try simp only [Act.put, List.setIfInBounds_toArray, List.set_cons_succ, List.set_cons_zero]
      refine qt_value (v := .bool true) (by rfl) (by intro w; go_simp) ?_
      try simp only [Act.put, List.setIfInBounds_toArray, List.set_cons_succ, List.set_cons_zero]
      refine wpQuiet_nil ?_
      rintro _ ⟨u3, rfl⟩
      go_wp2_with (fail)
      go_ret2
      exact ⟨rfl, KW.below _⟩
theorem wd_zero_of {a : Nat} (h : ¬ a < B) (s : Bool) : smallV (sg s a) = .tuple #[.int .i64 0, .bool false] := by
  have e : inI (sg s a) = false := decide_eq_false (by rw [B_eq] at h; cases s <;> simp only [sg_t, sg_f] <;> omega)
  unfold smallV
  rw [e]
  rfl
theorem small_any (s : Bool) (a : Nat) (ha : Hid (a < M)) (w : World) : Calls Try.prog 50 #[iv s a] w (Ret (smallV (sg s a)) w) := by
  by_cases h : a < B
  · exact small_small s a (Lib.hid h) w
  · rw [wd_zero_of h]
    exact small_big s a ha (by omega) w
/-- a number's digits, with its sign -/
def zdec (z : Int) : List UInt8 := if z < 0 then 45 :: decDigits z.natAbs else decDigits z.natAbs
theorem dec_small (a : Nat) (h : a < M) : (decDigits a).length ≤ 200 := by
  rw [Lib.decDigits_length]
  exact nDig_le 199 a (Nat.lt_trans h (by unfold M; rw [B_eq]; decide +kernel))
theorem minus_app (l : List UInt8) : (ByteArray.mk #[45]) ++ (ByteArray.mk l.toArray) = ByteArray.mk (45 :: l).toArray := by
  have := ba_append [45] l
  simpa using this
end Go.Proofs.Ytpcbnciihohdjaa.SignW

/- The document's own answers of layer 5: contracts over the translation. -/
namespace Go.Proofs.Ytpcbnciihohdjaa.SignW
open Go.RowKit
open DigM WideM WideV KM DigW WideW QuotW QuotM DecM FmtW SignM
open Go.Lib (decDigits nDigits)
set_option maxRecDepth 100000 in
set_option maxHeartbeats 3200000 in
theorem rfix_any (s : Bool) (n : Nat) (hn : Hid (n < M)) (w : World) : Calls Try.prog 33 #[iv s n] w (Ret (nv (sg s n)) w) := by
  rw [nv_sg]
  have heq := fun w => eqlW n 0 hn.out M_pos w
  by_cases h : n = 0
  · subst h
    rw [show (s && !eqB 0 0) = false by rw [eqB_same]; cases s <;> rfl]
    clear heq
    refine enter fun u => ?_
    go_enter Try.func33, Try.ntmps33
    go_wp2_with (first
      | ((with_reducible apply list_box); exact rfl; intro _ _)
      | ((with_reducible apply ls_alloc); infer_instance; intro _ _)
      | ((with_reducible apply ls_load); exact rfl; infer_instance; infer_instance)
      | ((with_reducible apply ls_store); exact rfl; exact rfl; infer_instance; infer_instance; infer_instance; intro _)
      | (with_reducible apply ls_W0)
      | ((with_reducible apply (ls_put (v := .bool _))); exact rfl; exact rfl; infer_instance; infer_instance; infer_instance; intro _))
    exact bd_cell Try.results33 rfl inferInstance inferInstance ⟨rfl, KW.below _⟩
  · rw [show eqB n 0 = false from decide_eq_false h] at heq ⊢
    rw [show (s && !false) = s by cases s <;> rfl]
    clear h
    refine enter fun u => ?_
    go_enter Try.func33, Try.ntmps33
    go_wp2_with (first
      | ((with_reducible apply list_box); exact rfl; intro _ _)
      | ((with_reducible apply ls_alloc); infer_instance; intro _ _)
      | ((with_reducible apply ls_load); exact rfl; infer_instance; infer_instance)
      | ((with_reducible apply ls_store); exact rfl; exact rfl; infer_instance; infer_instance; infer_instance; intro _)
      | (with_reducible apply ls_W0))
    exact bd_cell Try.results33 rfl inferInstance inferInstance ⟨rfl, KW.below _⟩
set_option maxRecDepth 100000 in
set_option maxHeartbeats 3200000 in
theorem rless_any (s : Bool) (n : Nat) (hn : Hid (n < M)) (w : World) : Calls Try.prog 49 #[iv s n] w (Ret (nv (- sg s n)) w) := by
  have HF := Lib.hid (fun w => rfix_any (!s) n hn w)
  rw [← sg_not]
  refine enter fun u => ?_
  go_enter Try.func49, Try.ntmps49
  go_wp2_with (first
    | ((with_reducible apply list_box); exact rfl; intro _ _)
    | ((with_reducible apply ls_alloc); infer_instance; intro _ _)
    | ((with_reducible apply ls_load); exact rfl; infer_instance; infer_instance)
    | ((with_reducible apply ls_store); exact rfl; exact rfl; infer_instance; infer_instance; infer_instance; intro _)
    | ((with_reducible apply ls_I); exact rfl; exact rfl)
    | (go_at_call 33; (with_reducible refine (HF.out _).mono ?_); rintro e w' ⟨rfl, hb'⟩; obtain ⟨_, rfl⟩ := KW.go _ hb'; clear hb'))
  exact bd_cell Try.results49 rfl inferInstance inferInstance ⟨rfl, KW.below _⟩
set_option maxRecDepth 100000 in
set_option maxHeartbeats 3200000 in
theorem rof_any (z : Int) (h1 : -9223372036854775808 ≤ z) (h2 : z ≤ 9223372036854775807) (w : World) : Calls Try.prog 9 #[.int .i64 z] w (Ret (nv z) w) := by
  unfold nv
  by_cases h : z < 0
  · obtain ⟨m, rfl⟩ : ∃ m : Nat, z = -(m : Int) - 1 := ⟨(-z-1).toNat, by omega⟩
    have e1 : -(m : Int) - 1 + 1 = -(m : Int) := by omega
    have e2 : IntKind.i64.wrap (-(m : Int)) = -(m : Int) := by rw [IntKind.wrap_i64]; omega
    have e3 : (-(m : Int) - 1).natAbs = m + 1 := by omega
    have hd : ng (-(m : Int) - 1) = true := decide_eq_true h
    have HB : Hid (m + 1 < B) := Lib.hid (by rw [B_eq]; omega)
    rw [hd, e3]
    refine enter fun u => ?_
    go_enter Try.func9, Try.ntmps9
    have e4 : IntKind.i64.wrap (m : Int) = m := by rw [IntKind.wrap_i64]; omega
    have e5 : IntKind.u64.wrap (m : Int) = m := by rw [IntKind.wrap_u64]; omega
    have e6 : IntKind.u64.wrap ((m : Int) + 1) = ((m + 1 : Nat) : Int) := by rw [IntKind.wrap_u64]; omega
    go_wp2_with (first
      | ((with_reducible apply ls_alloc); infer_instance; intro _ _)
      | ((with_reducible apply ls_load); exact rfl; infer_instance; infer_instance)
      | ((with_reducible apply ls_store); exact rfl; exact rfl; infer_instance; infer_instance; infer_instance; intro _)
      | ((with_reducible apply ls_I); exact rfl; exact rfl)
      | ((with_reducible apply ls_W1); exact rfl; exact HB))
    exact bd_cell Try.results9 rfl inferInstance inferInstance ⟨rfl, KW.below _⟩
  · obtain ⟨m, rfl⟩ : ∃ m : Nat, z = (m : Int) := ⟨z.toNat, by omega⟩
    have hd : ng (m : Int) = false := decide_eq_false h
    have HB : Hid (m < B) := Lib.hid (by rw [B_eq]; omega)
    rw [hd, Int.natAbs_natCast]
    refine enter fun u => ?_
    go_enter Try.func9, Try.ntmps9
    go_wp2_with (first
      | ((with_reducible apply ls_alloc); infer_instance; intro _ _)
      | ((with_reducible apply ls_load); exact rfl; infer_instance; infer_instance)
      | ((with_reducible apply ls_store); exact rfl; exact rfl; infer_instance; infer_instance; infer_instance; intro _)
      | ((with_reducible apply ls_I1); exact rfl)
      | ((with_reducible apply ls_W1); exact rfl; exact HB))
    exact bd_cell Try.results9 rfl inferInstance inferInstance ⟨rfl, KW.below _⟩
set_option maxRecDepth 100000 in
set_option maxHeartbeats 6400000 in
theorem radd_fit (s : Bool) (a b : Nat) (ha : Hid (a < M)) (hb : Hid (b < M)) (hf : a + b < M) (w : World) : Calls Try.prog 19 #[iv s a, iv s b] w (Ret (fv (sg s a + sg s b)) w) := by
  have HDA := Lib.hid (fun w => digits32_any a ha w)
  have HDB := Lib.hid (fun w => digits32_any b hb w)
  rw [← sg_same, fv_fit (by rw [sg_abs]; exact hf)]
  have HF := Lib.hid (fun (d : Nat) (hd : d < M) w => rfix_any s d (Lib.hid hd) w)
  refine enter fun u => ?_
  go_enter Try.func19, Try.ntmps19
  go_wp2_with (first
    | ((with_reducible apply list_box); exact rfl; intro _ _)
    | ((with_reducible apply ls_alloc); infer_instance; intro _ _))
  try simp only [Act.put, List.setIfInBounds_toArray, List.set_cons_succ, List.set_cons_zero]
  refine region_mix [(true, 0), (true, 1), (true, 3), (true, 4), (false, 2), (false, 5), (false, 6), (false, 7)] _ (Sub.both (h := Sub.both (h := Sub.both (h := Sub.nil)))) (by kernel_rfl) (by kernel_rfl) (fun _ _ _ _ _ h => by first | (simp only [Exit.then, bodyPost, defers_put] at h ⊢; exact h) | (simp only [Exit.then, Exit.inBlock, bodyPost, defers_put] at h ⊢; exact h)) ?_
  intro u5 _
  simp only [picks, List.filterMap_cons, List.filterMap_nil, List.getElem?_cons_zero, List.getElem?_cons_succ, Option.map_some]
  refine mixg_value (v := _) (by rfl) (exec_mag rfl) ?_
  try simp only [Act.put, List.setIfInBounds_toArray, List.set_cons_succ, List.set_cons_zero]
  refine mixg_part (by rfl) rfl inferInstance inferInstance ?_
  try simp only [Act.put, List.setIfInBounds_toArray, List.set_cons_succ, List.set_cons_zero]
  refine mixg_value (v := _) (by rfl) (exec_mag rfl) ?_
  try simp only [Act.put, List.setIfInBounds_toArray, List.set_cons_succ, List.set_cons_zero]
  refine mixg_part (by rfl) rfl inferInstance inferInstance ?_
  try simp only [Act.put, List.setIfInBounds_toArray, List.set_cons_succ, List.set_cons_zero]
  refine mixg_enter (f := 37) (args := #[wv a]) (by rfl) (by go_simp) ?_
  refine (HDA.out _).mono ?_
  rintro e w1 ⟨v1, x, rfl, ⟨hx1, hx2, hx3⟩, o1, b1⟩
  obtain ⟨u6, rfl⟩ := u5.go b1
  refine ⟨v1, rfl, KW.weak (h := inferInstance) u6, ?_⟩
  try simp only [Act.put, List.setIfInBounds_toArray, List.set_cons_succ, List.set_cons_zero]
  refine mixg_enter (f := 37) (args := #[wv b]) (by rfl) (by go_simp) ?_
  refine (HDB.out _).mono ?_
  rintro e w2 ⟨v2, y, rfl, ⟨hy1, hy2, hy3⟩, o2, b2⟩
  have R1 := o1.rd.later b2 (Nat.le_refl _)
  have R2 := o2.rd
  obtain ⟨u7, rfl⟩ := u6.go b2
  refine ⟨v2, rfl, KW.weak (h := inferInstance) u7, ?_⟩
  clear o1 o2 b1 b2 HDA HDB
  try simp only [Act.put, List.setIfInBounds_toArray, List.set_cons_succ, List.set_cons_zero]
  refine mixg_then (v := v1) (by rfl) (by go_simp) (KW.weak (h := inferInstance) u7) ?_
  try simp only [Act.put, List.setIfInBounds_toArray, List.set_cons_succ, List.set_cons_zero]
  refine mixg_then (v := v2) (by rfl) (by go_simp) (KW.weak (h := inferInstance) u7) ?_
  try simp only [Act.put, List.setIfInBounds_toArray, List.set_cons_succ, List.set_cons_zero]
  refine mix_nil ?_
  go_wp2_with (first
    | ((with_reducible apply ls_load); exact rfl; infer_instance; infer_instance))
  refine (plus_any v1 v2 x y _ R1 R2 hx1 hy1 (by omega) (by omega)).mono ?_
  rintro e w3 ⟨v3, z, rfl, ⟨hz1, hz2, hz3⟩, o3, b3⟩
  have R3 := o3.rd
  obtain ⟨u8, rfl⟩ := u7.go b3
  have FW := refWide_any v3 z _ R3 hz1 (by omega)
  rw [hz2, hx2, hy2] at FW
  clear o3 b3 R3 hz1 hz2 hz3 hx1 hx2 hx3 hy1 hy2 hy3 R1 R2
  rw [low_of hf, show fitB (a + b) = true from decide_eq_true hf] at FW
  have HF := Lib.hid (HF.out (a + b) hf)
  clear hf
  generalize a + b = d at *
  unfold nv at HF ⊢
  generalize sg s d = k at *
  go_wp2_with (fail)
  refine FW.mono ?_
  rintro e w4 ⟨rfl, b4⟩
  obtain ⟨u9, rfl⟩ := u8.go b4
  clear b4 FW
  go_wp2_with (first
    | ((with_reducible apply ls_alloc); infer_instance; intro _ _)
    | ((with_reducible apply ls_load); exact rfl; infer_instance; infer_instance)
    | ((with_reducible apply ls_store); exact rfl; exact rfl; infer_instance; infer_instance; infer_instance; intro _)
    | ((with_reducible apply ls_I); exact rfl; exact rfl)
    | (go_at_call 33; (with_reducible refine (HF.out _).mono ?_); rintro e w' ⟨rfl, hb'⟩; obtain ⟨_, rfl⟩ := KW.go _ hb'; clear hb'))
  exact bd_cell_tmp Try.results19 rfl rfl inferInstance inferInstance ⟨rfl, KW.below _⟩
set_option maxRecDepth 100000 in
set_option maxHeartbeats 6400000 in
theorem radd_big (s : Bool) (a b : Nat) (ha : Hid (a < M)) (hb : Hid (b < M)) (hf : ¬ a + b < M) (w : World) : Calls Try.prog 19 #[iv s a, iv s b] w (Ret (fv (sg s a + sg s b)) w) := by
  have HDA := Lib.hid (fun w => digits32_any a ha w)
  have HDB := Lib.hid (fun w => digits32_any b hb w)
  rw [← sg_same, fv_big (by rw [sg_abs]; exact hf)]
  have HF := Lib.hid (fun (d : Nat) (hd : d < M) w => rfix_any s d (Lib.hid hd) w)
  refine enter fun u => ?_
  go_enter Try.func19, Try.ntmps19
  go_wp2_with (first
    | ((with_reducible apply list_box); exact rfl; intro _ _)
    | ((with_reducible apply ls_alloc); infer_instance; intro _ _))
  try simp only [Act.put, List.setIfInBounds_toArray, List.set_cons_succ, List.set_cons_zero]
  refine region_mix [(true, 0), (true, 1), (true, 3), (true, 4), (false, 2), (false, 5), (false, 6), (false, 7)] _ (Sub.both (h := Sub.both (h := Sub.both (h := Sub.nil)))) (by kernel_rfl) (by kernel_rfl) (fun _ _ _ _ _ h => by first | (simp only [Exit.then, bodyPost, defers_put] at h ⊢; exact h) | (simp only [Exit.then, Exit.inBlock, bodyPost, defers_put] at h ⊢; exact h)) ?_
  intro u5 _
  simp only [picks, List.filterMap_cons, List.filterMap_nil, List.getElem?_cons_zero, List.getElem?_cons_succ, Option.map_some]
  refine mixg_value (v := _) (by rfl) (exec_mag rfl) ?_
  try simp only [Act.put, List.setIfInBounds_toArray, List.set_cons_succ, List.set_cons_zero]
  refine mixg_part (by rfl) rfl inferInstance inferInstance ?_
  try simp only [Act.put, List.setIfInBounds_toArray, List.set_cons_succ, List.set_cons_zero]
  refine mixg_value (v := _) (by rfl) (exec_mag rfl) ?_
  try simp only [Act.put, List.setIfInBounds_toArray, List.set_cons_succ, List.set_cons_zero]
  refine mixg_part (by rfl) rfl inferInstance inferInstance ?_
  try simp only [Act.put, List.setIfInBounds_toArray, List.set_cons_succ, List.set_cons_zero]
  refine mixg_enter (f := 37) (args := #[wv a]) (by rfl) (by go_simp) ?_
  refine (HDA.out _).mono ?_
  rintro e w1 ⟨v1, x, rfl, ⟨hx1, hx2, hx3⟩, o1, b1⟩
  obtain ⟨u6, rfl⟩ := u5.go b1
  refine ⟨v1, rfl, KW.weak (h := inferInstance) u6, ?_⟩
  try simp only [Act.put, List.setIfInBounds_toArray, List.set_cons_succ, List.set_cons_zero]
  refine mixg_enter (f := 37) (args := #[wv b]) (by rfl) (by go_simp) ?_
  refine (HDB.out _).mono ?_
  rintro e w2 ⟨v2, y, rfl, ⟨hy1, hy2, hy3⟩, o2, b2⟩
  have R1 := o1.rd.later b2 (Nat.le_refl _)
  have R2 := o2.rd
  obtain ⟨u7, rfl⟩ := u6.go b2
  refine ⟨v2, rfl, KW.weak (h := inferInstance) u7, ?_⟩
  clear o1 o2 b1 b2 HDA HDB
  try simp only [Act.put, List.setIfInBounds_toArray, List.set_cons_succ, List.set_cons_zero]
  refine mixg_then (v := v1) (by rfl) (by go_simp) (KW.weak (h := inferInstance) u7) ?_
  try simp only [Act.put, List.setIfInBounds_toArray, List.set_cons_succ, List.set_cons_zero]
  refine mixg_then (v := v2) (by rfl) (by go_simp) (KW.weak (h := inferInstance) u7) ?_
  try simp only [Act.put, List.setIfInBounds_toArray, List.set_cons_succ, List.set_cons_zero]
  refine mix_nil ?_
  go_wp2_with (first
    | ((with_reducible apply ls_load); exact rfl; infer_instance; infer_instance))
  refine (plus_any v1 v2 x y _ R1 R2 hx1 hy1 (by omega) (by omega)).mono ?_
  rintro e w3 ⟨v3, z, rfl, ⟨hz1, hz2, hz3⟩, o3, b3⟩
  have R3 := o3.rd
  obtain ⟨u8, rfl⟩ := u7.go b3
  have FW := refWide_any v3 z _ R3 hz1 (by omega)
  rw [hz2, hx2, hy2] at FW
  clear o3 b3 R3 hz1 hz2 hz3 hx1 hx2 hx3 hy1 hy2 hy3 R1 R2
  rw [show fitB (a + b) = false from decide_eq_false hf] at FW
  clear hf HF
  generalize low (a + b) = d at *
  go_wp2_with (fail)
  refine FW.mono ?_
  rintro e w4 ⟨rfl, b4⟩
  obtain ⟨u9, rfl⟩ := u8.go b4
  clear b4 FW
  go_wp2_with (first
    | ((with_reducible apply ls_alloc); infer_instance; intro _ _)
    | ((with_reducible apply ls_load); exact rfl; infer_instance; infer_instance)
    | ((with_reducible apply ls_store); exact rfl; exact rfl; infer_instance; infer_instance; infer_instance; intro _)
    | (with_reducible apply ls_I0))
  exact bd_cell_tmp Try.results19 rfl rfl inferInstance inferInstance ⟨rfl, KW.below _⟩
set_option maxRecDepth 100000 in
set_option maxHeartbeats 6400000 in
theorem radd_lt (s t : Bool) (a b : Nat) (ha : Hid (a < M)) (hb : Hid (b < M)) (hst : s ≠ t) (hab : a < b) (w : World) : Calls Try.prog 19 #[iv s a, iv t b] w (Ret (fv (sg s a + sg t b)) w) := by
  have HDA := Lib.hid (fun w => digits32_any a ha w)
  have HDB := Lib.hid (fun w => digits32_any b hb w)
  rw [fv_fit (apart_lt ha.out hb.out hst)]
  have hd : b - a < M := by have := ha.out; have := hb.out; omega
  have HF := Lib.hid (fun w => rfix_any t (b - a) (Lib.hid hd) w)
  have hL : low (b - a) = b - a := low_of hd
  have hB : fitB (b - a) = true := decide_eq_true hd
  rw [show sg s a + sg t b = sg t (b - a) by rw [Int.add_comm, ← sg_apart (Ne.symm hst) (by omega : a ≤ b)]]
  clear hd
  refine enter fun u => ?_
  go_enter Try.func19, Try.ntmps19
  go_wp2_with (first
    | ((with_reducible apply list_box); exact rfl; intro _ _)
    | ((with_reducible apply ls_alloc); infer_instance; intro _ _))
  try simp only [Act.put, List.setIfInBounds_toArray, List.set_cons_succ, List.set_cons_zero]
  refine region_mix [(true, 0), (true, 1), (true, 3), (true, 4), (false, 2), (false, 5), (false, 6), (false, 7)] _ (Sub.both (h := Sub.both (h := Sub.both (h := Sub.nil)))) (by kernel_rfl) (by kernel_rfl) (fun _ _ _ _ _ h => by first | (simp only [Exit.then, bodyPost, defers_put] at h ⊢; exact h) | (simp only [Exit.then, Exit.inBlock, bodyPost, defers_put] at h ⊢; exact h)) ?_
  intro u5 _
  simp only [picks, List.filterMap_cons, List.filterMap_nil, List.getElem?_cons_zero, List.getElem?_cons_succ, Option.map_some]
  refine mixg_value (v := _) (by rfl) (exec_mag rfl) ?_
  try simp only [Act.put, List.setIfInBounds_toArray, List.set_cons_succ, List.set_cons_zero]
  refine mixg_part (by rfl) rfl inferInstance inferInstance ?_
  try simp only [Act.put, List.setIfInBounds_toArray, List.set_cons_succ, List.set_cons_zero]
  refine mixg_value (v := _) (by rfl) (exec_mag rfl) ?_
  try simp only [Act.put, List.setIfInBounds_toArray, List.set_cons_succ, List.set_cons_zero]
  refine mixg_part (by rfl) rfl inferInstance inferInstance ?_
  try simp only [Act.put, List.setIfInBounds_toArray, List.set_cons_succ, List.set_cons_zero]
  refine mixg_enter (f := 37) (args := #[wv a]) (by rfl) (by go_simp) ?_
  refine (HDA.out _).mono ?_
  rintro e w1 ⟨v1, x, rfl, ⟨hx1, hx2, hx3⟩, o1, b1⟩
  obtain ⟨u6, rfl⟩ := u5.go b1
  refine ⟨v1, rfl, KW.weak (h := inferInstance) u6, ?_⟩
  try simp only [Act.put, List.setIfInBounds_toArray, List.set_cons_succ, List.set_cons_zero]
  refine mixg_enter (f := 37) (args := #[wv b]) (by rfl) (by go_simp) ?_
  refine (HDB.out _).mono ?_
  rintro e w2 ⟨v2, y, rfl, ⟨hy1, hy2, hy3⟩, o2, b2⟩
  have R1 := o1.rd.later b2 (Nat.le_refl _)
  have R2 := o2.rd
  obtain ⟨u7, rfl⟩ := u6.go b2
  refine ⟨v2, rfl, KW.weak (h := inferInstance) u7, ?_⟩
  clear o1 o2 b1 b2 HDA HDB
  try simp only [Act.put, List.setIfInBounds_toArray, List.set_cons_succ, List.set_cons_zero]
  refine mixg_then (v := v1) (by rfl) (by go_simp) (KW.weak (h := inferInstance) u7) ?_
  try simp only [Act.put, List.setIfInBounds_toArray, List.set_cons_succ, List.set_cons_zero]
  refine mixg_then (v := v2) (by rfl) (by go_simp) (KW.weak (h := inferInstance) u7) ?_
  try simp only [Act.put, List.setIfInBounds_toArray, List.set_cons_succ, List.set_cons_zero]
  refine mix_nil ?_
  have FL := less_any v1 v2 x y u7.w R1 R2 hx1 hy1 (by omega) (by omega)
  rw [show lessB x y = true by unfold lessB; rw [hx2, hy2]; exact decide_eq_true hab] at FL
  cases s <;> cases t <;> first | exact absurd rfl hst | skip
  all_goals (
    go_wp2_with (first
      | ((with_reducible apply ls_load); exact rfl; infer_instance; infer_instance))
    refine FL.mono ?_
    rintro e w' ⟨rfl, rfl⟩
    clear FL
    go_wp2_with (first
      | ((with_reducible apply ls_load); exact rfl; infer_instance; infer_instance))
    refine (minus_any v2 v1 y x _ R2 R1 hy1 hx1 (Lib.hid (by rw [hx2, hy2]; omega)) (by omega) (by omega)).mono ?_
    rintro e w3 ⟨v3, z, rfl, ⟨hz1, hz2, hz3⟩, o3, b3⟩
    have R3 := o3.rd
    obtain ⟨u8, rfl⟩ := u7.go b3
    have FW := refWide_any v3 z _ R3 hz1 (by omega)
    rw [hz2, hx2, hy2, hL, hB] at FW
    clear o3 b3 R3 hz1 hz2 hz3 hx1 hx2 hx3 hy1 hy2 hy3 R1 R2 hL hB
    generalize b - a = d at *
    unfold nv at HF ⊢
    go_wp2_with (fail)
    refine FW.mono ?_
    rintro e w4 ⟨rfl, b4⟩
    obtain ⟨u9, rfl⟩ := u8.go b4
    clear b4 FW
    go_wp2_with (first
      | ((with_reducible apply ls_alloc); infer_instance; intro _ _)
      | ((with_reducible apply ls_load); exact rfl; infer_instance; infer_instance)
      | ((with_reducible apply ls_store); exact rfl; exact rfl; infer_instance; infer_instance; infer_instance; intro _)
      | ((with_reducible apply ls_I); exact rfl; exact rfl)
      | (go_at_call 33; (with_reducible refine (HF.out _).mono ?_); rintro e w' ⟨rfl, hb'⟩; obtain ⟨_, rfl⟩ := KW.go _ hb'; clear hb'))
    exact bd_cell_tmp Try.results19 rfl rfl inferInstance inferInstance ⟨rfl, KW.below _⟩)
set_option maxRecDepth 100000 in
set_option maxHeartbeats 6400000 in
theorem radd_ge (s t : Bool) (a b : Nat) (ha : Hid (a < M)) (hb : Hid (b < M)) (hst : s ≠ t) (hab : ¬ a < b) (w : World) : Calls Try.prog 19 #[iv s a, iv t b] w (Ret (fv (sg s a + sg t b)) w) := by
  have HDA := Lib.hid (fun w => digits32_any a ha w)
  have HDB := Lib.hid (fun w => digits32_any b hb w)
  rw [fv_fit (apart_lt ha.out hb.out hst)]
  have hd : a - b < M := by have := ha.out; have := hb.out; omega
  have HF := Lib.hid (fun w => rfix_any s (a - b) (Lib.hid hd) w)
  have hL : low (a - b) = a - b := low_of hd
  have hB : fitB (a - b) = true := decide_eq_true hd
  rw [show sg s a + sg t b = sg s (a - b) by rw [← sg_apart hst (by omega : b ≤ a)]]
  clear hd
  refine enter fun u => ?_
  go_enter Try.func19, Try.ntmps19
  go_wp2_with (first
    | ((with_reducible apply list_box); exact rfl; intro _ _)
    | ((with_reducible apply ls_alloc); infer_instance; intro _ _))
  try simp only [Act.put, List.setIfInBounds_toArray, List.set_cons_succ, List.set_cons_zero]
  refine region_mix [(true, 0), (true, 1), (true, 3), (true, 4), (false, 2), (false, 5), (false, 6), (false, 7)] _ (Sub.both (h := Sub.both (h := Sub.both (h := Sub.nil)))) (by kernel_rfl) (by kernel_rfl) (fun _ _ _ _ _ h => by first | (simp only [Exit.then, bodyPost, defers_put] at h ⊢; exact h) | (simp only [Exit.then, Exit.inBlock, bodyPost, defers_put] at h ⊢; exact h)) ?_
  intro u5 _
  simp only [picks, List.filterMap_cons, List.filterMap_nil, List.getElem?_cons_zero, List.getElem?_cons_succ, Option.map_some]
  refine mixg_value (v := _) (by rfl) (exec_mag rfl) ?_
  try simp only [Act.put, List.setIfInBounds_toArray, List.set_cons_succ, List.set_cons_zero]
  refine mixg_part (by rfl) rfl inferInstance inferInstance ?_
  try simp only [Act.put, List.setIfInBounds_toArray, List.set_cons_succ, List.set_cons_zero]
  refine mixg_value (v := _) (by rfl) (exec_mag rfl) ?_
  try simp only [Act.put, List.setIfInBounds_toArray, List.set_cons_succ, List.set_cons_zero]
  refine mixg_part (by rfl) rfl inferInstance inferInstance ?_
  try simp only [Act.put, List.setIfInBounds_toArray, List.set_cons_succ, List.set_cons_zero]
  refine mixg_enter (f := 37) (args := #[wv a]) (by rfl) (by go_simp) ?_
  refine (HDA.out _).mono ?_
  rintro e w1 ⟨v1, x, rfl, ⟨hx1, hx2, hx3⟩, o1, b1⟩
  obtain ⟨u6, rfl⟩ := u5.go b1
  refine ⟨v1, rfl, KW.weak (h := inferInstance) u6, ?_⟩
  try simp only [Act.put, List.setIfInBounds_toArray, List.set_cons_succ, List.set_cons_zero]
  refine mixg_enter (f := 37) (args := #[wv b]) (by rfl) (by go_simp) ?_
  refine (HDB.out _).mono ?_
  rintro e w2 ⟨v2, y, rfl, ⟨hy1, hy2, hy3⟩, o2, b2⟩
  have R1 := o1.rd.later b2 (Nat.le_refl _)
  have R2 := o2.rd
  obtain ⟨u7, rfl⟩ := u6.go b2
  refine ⟨v2, rfl, KW.weak (h := inferInstance) u7, ?_⟩
  clear o1 o2 b1 b2 HDA HDB
  try simp only [Act.put, List.setIfInBounds_toArray, List.set_cons_succ, List.set_cons_zero]
  refine mixg_then (v := v1) (by rfl) (by go_simp) (KW.weak (h := inferInstance) u7) ?_
  try simp only [Act.put, List.setIfInBounds_toArray, List.set_cons_succ, List.set_cons_zero]
  refine mixg_then (v := v2) (by rfl) (by go_simp) (KW.weak (h := inferInstance) u7) ?_
  try simp only [Act.put, List.setIfInBounds_toArray, List.set_cons_succ, List.set_cons_zero]
  refine mix_nil ?_
  have FL := less_any v1 v2 x y u7.w R1 R2 hx1 hy1 (by omega) (by omega)
  rw [show lessB x y = false by unfold lessB; rw [hx2, hy2]; exact decide_eq_false hab] at FL
  cases s <;> cases t <;> first | exact absurd rfl hst | skip
  all_goals (
    go_wp2_with (first
      | ((with_reducible apply ls_load); exact rfl; infer_instance; infer_instance))
    refine FL.mono ?_
    rintro e w' ⟨rfl, rfl⟩
    clear FL
    go_wp2_with (first
      | ((with_reducible apply ls_load); exact rfl; infer_instance; infer_instance))
    refine (minus_any v1 v2 x y _ R1 R2 hx1 hy1 (Lib.hid (by rw [hx2, hy2]; omega)) (by omega) (by omega)).mono ?_
    rintro e w3 ⟨v3, z, rfl, ⟨hz1, hz2, hz3⟩, o3, b3⟩
    have R3 := o3.rd
    obtain ⟨u8, rfl⟩ := u7.go b3
    have FW := refWide_any v3 z _ R3 hz1 (by omega)
    rw [hz2, hx2, hy2, hL, hB] at FW
    clear o3 b3 R3 hz1 hz2 hz3 hx1 hx2 hx3 hy1 hy2 hy3 R1 R2 hL hB
    generalize a - b = d at *
    unfold nv at HF ⊢
    go_wp2_with (fail)
    refine FW.mono ?_
    rintro e w4 ⟨rfl, b4⟩
    obtain ⟨u9, rfl⟩ := u8.go b4
    clear b4 FW
    go_wp2_with (first
      | ((with_reducible apply ls_alloc); infer_instance; intro _ _)
      | ((with_reducible apply ls_load); exact rfl; infer_instance; infer_instance)
      | ((with_reducible apply ls_store); exact rfl; exact rfl; infer_instance; infer_instance; infer_instance; intro _)
      | ((with_reducible apply ls_I); exact rfl; exact rfl)
      | (go_at_call 33; (with_reducible refine (HF.out _).mono ?_); rintro e w' ⟨rfl, hb'⟩; obtain ⟨_, rfl⟩ := KW.go _ hb'; clear hb'))
    exact bd_cell_tmp Try.results19 rfl rfl inferInstance inferInstance ⟨rfl, KW.below _⟩)
theorem radd_any (s t : Bool) (a b : Nat) (ha : Hid (a < M)) (hb : Hid (b < M)) (w : World) : Calls Try.prog 19 #[iv s a, iv t b] w (Ret (fv (sg s a + sg t b)) w) := by
  by_cases h : s = t
  · subst h
    by_cases hf : a + b < M
    · exact radd_fit s a b ha hb hf w
    · exact radd_big s a b ha hb hf w
  · by_cases hab : a < b
    · exact radd_lt s t a b ha hb h hab w
    · exact radd_ge s t a b ha hb h hab w
end Go.Proofs.Ytpcbnciihohdjaa.SignW

/- The document's own answers of layer 5: product, order, digits: contracts over the translation. -/
namespace Go.Proofs.Ytpcbnciihohdjaa.SignW
open Go.RowKit
open DigM WideM WideV KM DigW WideW QuotW QuotM DecM FmtW SignM
open Go.Lib (decDigits nDigits)
set_option maxRecDepth 100000 in
set_option maxHeartbeats 12800000 in
theorem rmul_fit (s t : Bool) (a b : Nat) (ha : Hid (a < M)) (hb : Hid (b < M)) (hf : a * b < M) (w : World) : Calls Try.prog 20 #[iv s a, iv t b] w (Ret (fv (sg s a * sg t b)) w) := by
  have HDA := Lib.hid (fun w => digits32_any a ha w)
  have HDB := Lib.hid (fun w => digits32_any b hb w)
  obtain ⟨r, hr⟩ : ∃ r, r = (s != t) := ⟨_, rfl⟩
  rw [← sg_mul, fv_fit (by rw [sg_abs]; exact hf), ← hr]
  have hL : low (a * b) = a * b := low_of hf
  have hBt : fitB (a * b) = true := decide_eq_true hf
  have HF := Lib.hid (fun w => rfix_any r (a * b) (Lib.hid hf) w)
  obtain ⟨q, hq⟩ : ∃ q, a * b = q := ⟨_, rfl⟩
  rw [hq] at HF ⊢
  rw [hq] at hL hBt
  have hx0 := hq
  clear hf
  refine enter fun u => ?_
  go_enter Try.func20, Try.ntmps20
  go_wp2_with (first
    | ((with_reducible apply list_box); exact rfl; intro _ _)
    | ((with_reducible apply ls_alloc); infer_instance; intro _ _))
  try simp only [Act.put, List.setIfInBounds_toArray, List.set_cons_succ, List.set_cons_zero]
  refine region_float [(true, 0), (true, 1), (true, 3), (true, 4), (false, 2), (false, 5), (false, 6), (false, 7), (true, 8), (true, 9), (true, 10)] 11 [(false, 12), (false, 13)] _ _ (Sub.both (h := Sub.both (h := Sub.both (h := Sub.nil)))) (by kernel_rfl) rfl (by kernel_rfl) (fun _ _ _ _ _ h => by first | (simp only [Exit.then, bodyPost, defers_put] at h ⊢; exact h) | (simp only [Exit.then, Exit.inBlock, bodyPost, defers_put] at h ⊢; exact h)) ?_
  intro u5 _
  simp only [picks, List.filterMap_cons, List.filterMap_nil, List.getElem?_cons_zero, List.getElem?_cons_succ, Option.map_some]
  refine fl_value (v := _) (by rfl) (exec_mag rfl) ?_
  try simp only [Act.put, List.setIfInBounds_toArray, List.set_cons_succ, List.set_cons_zero]
  refine fl_load (by rfl) rfl inferInstance inferInstance ?_
  try simp only [Act.put, List.setIfInBounds_toArray, List.set_cons_succ, List.set_cons_zero]
  refine fl_value (v := _) (by rfl) (exec_mag rfl) ?_
  try simp only [Act.put, List.setIfInBounds_toArray, List.set_cons_succ, List.set_cons_zero]
  refine fl_load (by rfl) rfl inferInstance inferInstance ?_
  try simp only [Act.put, List.setIfInBounds_toArray, List.set_cons_succ, List.set_cons_zero]
  refine fl_both (by rfl) (by rfl) ?_ ?_
  · refine wp_allocs inferInstance inferInstance fun g8 u5 b8 => ?_
    clear b8
    try simp only [Act.put, List.setIfInBounds_toArray, List.set_cons_succ, List.set_cons_zero]
    simp only [List.cons_append, List.nil_append]
    refine mx_only (by rfl) ?_
    refine wp_enters (f := 37) (args := #[wv a]) (by go_simp) ?_
    refine (HDA.out _).mono ?_
    rintro e w' ⟨v1, x, rfl, ⟨hx1, hx2, hx3⟩, o1, b1⟩
    have R1 := o1.rd
    obtain ⟨u5, rfl⟩ := u5.go b1
    refine ⟨v1, rfl, KW.weak (h := inferInstance) u5, ?_⟩
    clear o1 b1
    try simp only [Act.put, List.setIfInBounds_toArray, List.set_cons_succ, List.set_cons_zero]
    refine mx_only (by rfl) ?_
    refine wp_enters (f := 37) (args := #[wv b]) (by go_simp) ?_
    refine (HDB.out _).mono ?_
    rintro e w' ⟨v2, y, rfl, ⟨hy1, hy2, hy3⟩, o2, b2⟩
    have R1 := R1.later b2 (Nat.le_refl _)
    have R2 := o2.rd
    obtain ⟨u5, rfl⟩ := u5.go b2
    refine ⟨v2, rfl, KW.weak (h := inferInstance) u5, ?_⟩
    clear o2 b2
    try simp only [Act.put, List.setIfInBounds_toArray, List.set_cons_succ, List.set_cons_zero]
    refine mx_only (by rfl) ?_
    refine wp_enters (f := 48) (args := #[v1, v2]) (by go_simp) ?_
    refine (times_any v1 v2 x y _ R1 R2 hx1 hy1 (by omega) (by omega)).mono ?_
    rintro e w' ⟨v3, z, rfl, ⟨hz1, hz2, hz3⟩, o3, b3⟩
    have R3 := o3.rd
    obtain ⟨u5, rfl⟩ := u5.go b3
    refine ⟨v3, rfl, KW.weak (h := inferInstance) u5, ?_⟩
    clear o3 b3
    try simp only [Act.put, List.setIfInBounds_toArray, List.set_cons_succ, List.set_cons_zero]
    refine mx_only (by rfl) ?_
    refine wp_enters (f := 44) (args := #[v3]) (by go_simp) ?_
    have FW := refWide_any v3 z _ R3 hz1 (by omega)
    rw [hz2, hx2, hy2, hx0, hL, hBt] at FW
    refine FW.mono ?_
    rintro e w' ⟨rfl, b4⟩
    obtain ⟨u5, rfl⟩ := u5.go b4
    refine ⟨_, rfl, KW.weak (h := inferInstance) u5, ?_⟩
    clear b4 FW R3 hz1 hz2 hz3 hx1 hx2 hx3 hy1 hy2 hy3
    try simp only [Act.put, List.setIfInBounds_toArray, List.set_cons_succ, List.set_cons_zero]
    refine mixg_value (v := .tuple #[wv q, .bool true]) (by rfl) (by intro w; go_simp) ?_
    try simp only [Act.put, List.setIfInBounds_toArray, List.set_cons_succ, List.set_cons_zero]
    refine mixg_value (v := wv q) (by rfl) (by intro w; go_simp) ?_
    try simp only [Act.put, List.setIfInBounds_toArray, List.set_cons_succ, List.set_cons_zero]
    refine mixg_value (v := .bool true) (by rfl) (by intro w; go_simp) ?_
    try simp only [Act.put, List.setIfInBounds_toArray, List.set_cons_succ, List.set_cons_zero]
    refine mixg_store (by rfl) rfl rfl inferInstance inferInstance inferInstance inferInstance fun u5 => ?_
    refine mixg_then (v := .bool true) (by rfl) (by go_simp) (KW.weak (h := inferInstance) u5) ?_
    try simp only [Act.put, List.setIfInBounds_toArray, List.set_cons_succ, List.set_cons_zero]
    refine mix_nil ?_
    cases s <;> cases t
    all_goals (
      first | (obtain rfl : r = true := hr) | (obtain rfl : r = false := hr)
      go_wp2_with (first
        | ((with_reducible apply ls_load); exact rfl; infer_instance; infer_instance)
        | ((with_reducible apply ls_store); exact rfl; exact rfl; infer_instance; infer_instance; infer_instance; intro _)
        | ((with_reducible apply ls_I); exact rfl; exact rfl)
        | (go_at_call 33; (with_reducible refine (HF.out _).mono ?_); rintro e w' ⟨rfl, hb'⟩; obtain ⟨_, rfl⟩ := KW.go _ hb'; clear hb'))
      exact bd_cell_tmp Try.results20 rfl rfl inferInstance inferInstance ⟨rfl, KW.below _⟩)
  · refine wp_enters (f := 37) (args := #[wv a]) (by go_simp) ?_
    refine (HDA.out _).mono ?_
    rintro e w' ⟨v1, x, rfl, ⟨hx1, hx2, hx3⟩, o1, b1⟩
    have R1 := o1.rd
    obtain ⟨u5, rfl⟩ := u5.go b1
    refine ⟨v1, rfl, KW.weak (h := inferInstance) u5, ?_⟩
    clear o1 b1
    try simp only [Act.put, List.setIfInBounds_toArray, List.set_cons_succ, List.set_cons_zero]
    refine fl_both (by rfl) (by rfl) ?_ ?_
    · refine wp_allocs inferInstance inferInstance fun g8 u5 b8 => ?_
      have R1 := R1.later b8 (Nat.le_refl _)
      clear b8
      try simp only [Act.put, List.setIfInBounds_toArray, List.set_cons_succ, List.set_cons_zero]
      simp only [List.cons_append, List.nil_append]
      refine mx_only (by rfl) ?_
      refine wp_enters (f := 37) (args := #[wv b]) (by go_simp) ?_
      refine (HDB.out _).mono ?_
      rintro e w' ⟨v2, y, rfl, ⟨hy1, hy2, hy3⟩, o2, b2⟩
      have R1 := R1.later b2 (Nat.le_refl _)
      have R2 := o2.rd
      obtain ⟨u5, rfl⟩ := u5.go b2
      refine ⟨v2, rfl, KW.weak (h := inferInstance) u5, ?_⟩
      clear o2 b2
      try simp only [Act.put, List.setIfInBounds_toArray, List.set_cons_succ, List.set_cons_zero]
      refine mx_only (by rfl) ?_
      refine wp_enters (f := 48) (args := #[v1, v2]) (by go_simp) ?_
      refine (times_any v1 v2 x y _ R1 R2 hx1 hy1 (by omega) (by omega)).mono ?_
      rintro e w' ⟨v3, z, rfl, ⟨hz1, hz2, hz3⟩, o3, b3⟩
      have R3 := o3.rd
      obtain ⟨u5, rfl⟩ := u5.go b3
      refine ⟨v3, rfl, KW.weak (h := inferInstance) u5, ?_⟩
      clear o3 b3
      try simp only [Act.put, List.setIfInBounds_toArray, List.set_cons_succ, List.set_cons_zero]
      refine mx_only (by rfl) ?_
      refine wp_enters (f := 44) (args := #[v3]) (by go_simp) ?_
      have FW := refWide_any v3 z _ R3 hz1 (by omega)
      rw [hz2, hx2, hy2, hx0, hL, hBt] at FW
      refine FW.mono ?_
      rintro e w' ⟨rfl, b4⟩
      obtain ⟨u5, rfl⟩ := u5.go b4
      refine ⟨_, rfl, KW.weak (h := inferInstance) u5, ?_⟩
      clear b4 FW R3 hz1 hz2 hz3 hx1 hx2 hx3 hy1 hy2 hy3
      try simp only [Act.put, List.setIfInBounds_toArray, List.set_cons_succ, List.set_cons_zero]
      refine mixg_value (v := .tuple #[wv q, .bool true]) (by rfl) (by intro w; go_simp) ?_
      try simp only [Act.put, List.setIfInBounds_toArray, List.set_cons_succ, List.set_cons_zero]
      refine mixg_value (v := wv q) (by rfl) (by intro w; go_simp) ?_
      try simp only [Act.put, List.setIfInBounds_toArray, List.set_cons_succ, List.set_cons_zero]
      refine mixg_value (v := .bool true) (by rfl) (by intro w; go_simp) ?_
      try simp only [Act.put, List.setIfInBounds_toArray, List.set_cons_succ, List.set_cons_zero]
      refine mixg_store (by rfl) rfl rfl inferInstance inferInstance inferInstance inferInstance fun u5 => ?_
      refine mixg_then (v := .bool true) (by rfl) (by go_simp) (KW.weak (h := inferInstance) u5) ?_
      try simp only [Act.put, List.setIfInBounds_toArray, List.set_cons_succ, List.set_cons_zero]
      refine mix_nil ?_
      cases s <;> cases t
      all_goals (
        first | (obtain rfl : r = true := hr) | (obtain rfl : r = false := hr)
        go_wp2_with (first
          | ((with_reducible apply ls_load); exact rfl; infer_instance; infer_instance)
          | ((with_reducible apply ls_store); exact rfl; exact rfl; infer_instance; infer_instance; infer_instance; intro _)
          | ((with_reducible apply ls_I); exact rfl; exact rfl)
          | (go_at_call 33; (with_reducible refine (HF.out _).mono ?_); rintro e w' ⟨rfl, hb'⟩; obtain ⟨_, rfl⟩ := KW.go _ hb'; clear hb'))
        exact bd_cell_tmp Try.results20 rfl rfl inferInstance inferInstance ⟨rfl, KW.below _⟩)
    · refine wp_enters (f := 37) (args := #[wv b]) (by go_simp) ?_
      refine (HDB.out _).mono ?_
      rintro e w' ⟨v2, y, rfl, ⟨hy1, hy2, hy3⟩, o2, b2⟩
      have R1 := R1.later b2 (Nat.le_refl _)
      have R2 := o2.rd
      obtain ⟨u5, rfl⟩ := u5.go b2
      refine ⟨v2, rfl, KW.weak (h := inferInstance) u5, ?_⟩
      clear o2 b2
      try simp only [Act.put, List.setIfInBounds_toArray, List.set_cons_succ, List.set_cons_zero]
      refine fl_both (by rfl) (by rfl) ?_ ?_
      · refine wp_allocs inferInstance inferInstance fun g8 u5 b8 => ?_
        have R1 := R1.later b8 (Nat.le_refl _)
        have R2 := R2.later b8 (Nat.le_refl _)
        clear b8
        try simp only [Act.put, List.setIfInBounds_toArray, List.set_cons_succ, List.set_cons_zero]
        simp only [List.cons_append, List.nil_append]
        refine mx_only (by rfl) ?_
        refine wp_enters (f := 48) (args := #[v1, v2]) (by go_simp) ?_
        refine (times_any v1 v2 x y _ R1 R2 hx1 hy1 (by omega) (by omega)).mono ?_
        rintro e w' ⟨v3, z, rfl, ⟨hz1, hz2, hz3⟩, o3, b3⟩
        have R3 := o3.rd
        obtain ⟨u5, rfl⟩ := u5.go b3
        refine ⟨v3, rfl, KW.weak (h := inferInstance) u5, ?_⟩
        clear o3 b3
        try simp only [Act.put, List.setIfInBounds_toArray, List.set_cons_succ, List.set_cons_zero]
        refine mx_only (by rfl) ?_
        refine wp_enters (f := 44) (args := #[v3]) (by go_simp) ?_
        have FW := refWide_any v3 z _ R3 hz1 (by omega)
        rw [hz2, hx2, hy2, hx0, hL, hBt] at FW
        refine FW.mono ?_
        rintro e w' ⟨rfl, b4⟩
        obtain ⟨u5, rfl⟩ := u5.go b4
        refine ⟨_, rfl, KW.weak (h := inferInstance) u5, ?_⟩
        clear b4 FW R3 hz1 hz2 hz3 hx1 hx2 hx3 hy1 hy2 hy3
        try simp only [Act.put, List.setIfInBounds_toArray, List.set_cons_succ, List.set_cons_zero]
        refine mixg_value (v := .tuple #[wv q, .bool true]) (by rfl) (by intro w; go_simp) ?_
        try simp only [Act.put, List.setIfInBounds_toArray, List.set_cons_succ, List.set_cons_zero]
        refine mixg_value (v := wv q) (by rfl) (by intro w; go_simp) ?_
        try simp only [Act.put, List.setIfInBounds_toArray, List.set_cons_succ, List.set_cons_zero]
        refine mixg_value (v := .bool true) (by rfl) (by intro w; go_simp) ?_
        try simp only [Act.put, List.setIfInBounds_toArray, List.set_cons_succ, List.set_cons_zero]
        refine mixg_store (by rfl) rfl rfl inferInstance inferInstance inferInstance inferInstance fun u5 => ?_
        refine mixg_then (v := .bool true) (by rfl) (by go_simp) (KW.weak (h := inferInstance) u5) ?_
        try simp only [Act.put, List.setIfInBounds_toArray, List.set_cons_succ, List.set_cons_zero]
        refine mix_nil ?_
        cases s <;> cases t
        all_goals (
          first | (obtain rfl : r = true := hr) | (obtain rfl : r = false := hr)
          go_wp2_with (first
            | ((with_reducible apply ls_load); exact rfl; infer_instance; infer_instance)
            | ((with_reducible apply ls_store); exact rfl; exact rfl; infer_instance; infer_instance; infer_instance; intro _)
            | ((with_reducible apply ls_I); exact rfl; exact rfl)
            | (go_at_call 33; (with_reducible refine (HF.out _).mono ?_); rintro e w' ⟨rfl, hb'⟩; obtain ⟨_, rfl⟩ := KW.go _ hb'; clear hb'))
          exact bd_cell_tmp Try.results20 rfl rfl inferInstance inferInstance ⟨rfl, KW.below _⟩)
      · refine wp_enters (f := 48) (args := #[v1, v2]) (by go_simp) ?_
        refine (times_any v1 v2 x y _ R1 R2 hx1 hy1 (by omega) (by omega)).mono ?_
        rintro e w' ⟨v3, z, rfl, ⟨hz1, hz2, hz3⟩, o3, b3⟩
        have R3 := o3.rd
        obtain ⟨u5, rfl⟩ := u5.go b3
        refine ⟨v3, rfl, KW.weak (h := inferInstance) u5, ?_⟩
        clear o3 b3
        try simp only [Act.put, List.setIfInBounds_toArray, List.set_cons_succ, List.set_cons_zero]
        refine fl_both (by rfl) (by rfl) ?_ ?_
        · refine wp_allocs inferInstance inferInstance fun g8 u5 b8 => ?_
          have R3 := R3.later b8 (Nat.le_refl _)
          clear b8
          try simp only [Act.put, List.setIfInBounds_toArray, List.set_cons_succ, List.set_cons_zero]
          simp only [List.cons_append, List.nil_append]
          refine mx_only (by rfl) ?_
          refine wp_enters (f := 44) (args := #[v3]) (by go_simp) ?_
          have FW := refWide_any v3 z _ R3 hz1 (by omega)
          rw [hz2, hx2, hy2, hx0, hL, hBt] at FW
          refine FW.mono ?_
          rintro e w' ⟨rfl, b4⟩
          obtain ⟨u5, rfl⟩ := u5.go b4
          refine ⟨_, rfl, KW.weak (h := inferInstance) u5, ?_⟩
          clear b4 FW R3 hz1 hz2 hz3 hx1 hx2 hx3 hy1 hy2 hy3
          try simp only [Act.put, List.setIfInBounds_toArray, List.set_cons_succ, List.set_cons_zero]
          refine mixg_value (v := .tuple #[wv q, .bool true]) (by rfl) (by intro w; go_simp) ?_
          try simp only [Act.put, List.setIfInBounds_toArray, List.set_cons_succ, List.set_cons_zero]
          refine mixg_value (v := wv q) (by rfl) (by intro w; go_simp) ?_
          try simp only [Act.put, List.setIfInBounds_toArray, List.set_cons_succ, List.set_cons_zero]
          refine mixg_value (v := .bool true) (by rfl) (by intro w; go_simp) ?_
          try simp only [Act.put, List.setIfInBounds_toArray, List.set_cons_succ, List.set_cons_zero]
          refine mixg_store (by rfl) rfl rfl inferInstance inferInstance inferInstance inferInstance fun u5 => ?_
          refine mixg_then (v := .bool true) (by rfl) (by go_simp) (KW.weak (h := inferInstance) u5) ?_
          try simp only [Act.put, List.setIfInBounds_toArray, List.set_cons_succ, List.set_cons_zero]
          refine mix_nil ?_
          cases s <;> cases t
          all_goals (
            first | (obtain rfl : r = true := hr) | (obtain rfl : r = false := hr)
            go_wp2_with (first
              | ((with_reducible apply ls_load); exact rfl; infer_instance; infer_instance)
              | ((with_reducible apply ls_store); exact rfl; exact rfl; infer_instance; infer_instance; infer_instance; intro _)
              | ((with_reducible apply ls_I); exact rfl; exact rfl)
              | (go_at_call 33; (with_reducible refine (HF.out _).mono ?_); rintro e w' ⟨rfl, hb'⟩; obtain ⟨_, rfl⟩ := KW.go _ hb'; clear hb'))
            exact bd_cell_tmp Try.results20 rfl rfl inferInstance inferInstance ⟨rfl, KW.below _⟩)
        · refine wp_enters (f := 44) (args := #[v3]) (by go_simp) ?_
          have FW := refWide_any v3 z _ R3 hz1 (by omega)
          rw [hz2, hx2, hy2, hx0, hL, hBt] at FW
          refine FW.mono ?_
          rintro e w' ⟨rfl, b4⟩
          obtain ⟨u5, rfl⟩ := u5.go b4
          refine ⟨_, rfl, KW.weak (h := inferInstance) u5, ?_⟩
          clear b4 FW R3 hz1 hz2 hz3 hx1 hx2 hx3 hy1 hy2 hy3
          try simp only [Act.put, List.setIfInBounds_toArray, List.set_cons_succ, List.set_cons_zero]
          refine fl_value (v := .tuple #[wv q, .bool true]) (by rfl) (by intro w; go_simp) ?_
          try simp only [Act.put, List.setIfInBounds_toArray, List.set_cons_succ, List.set_cons_zero]
          refine fl_value (v := wv q) (by rfl) (by intro w; go_simp) ?_
          try simp only [Act.put, List.setIfInBounds_toArray, List.set_cons_succ, List.set_cons_zero]
          refine fl_value (v := .bool true) (by rfl) (by intro w; go_simp) ?_
          try simp only [Act.put, List.setIfInBounds_toArray, List.set_cons_succ, List.set_cons_zero]
          refine fl_nil (by rfl) ?_
          refine wp_allocs inferInstance inferInstance fun g8 u5 b8 => ?_
          clear b8
          try simp only [Act.put, List.setIfInBounds_toArray, List.set_cons_succ, List.set_cons_zero]
          refine mixg_store (by rfl) rfl rfl inferInstance inferInstance inferInstance inferInstance fun u5 => ?_
          refine mixg_then (v := .bool true) (by rfl) (by go_simp) (KW.weak (h := inferInstance) u5) ?_
          try simp only [Act.put, List.setIfInBounds_toArray, List.set_cons_succ, List.set_cons_zero]
          refine mix_nil ?_
          cases s <;> cases t
          all_goals (
            first | (obtain rfl : r = true := hr) | (obtain rfl : r = false := hr)
            go_wp2_with (first
              | ((with_reducible apply ls_load); exact rfl; infer_instance; infer_instance)
              | ((with_reducible apply ls_store); exact rfl; exact rfl; infer_instance; infer_instance; infer_instance; intro _)
              | ((with_reducible apply ls_I); exact rfl; exact rfl)
              | (go_at_call 33; (with_reducible refine (HF.out _).mono ?_); rintro e w' ⟨rfl, hb'⟩; obtain ⟨_, rfl⟩ := KW.go _ hb'; clear hb'))
            exact bd_cell_tmp Try.results20 rfl rfl inferInstance inferInstance ⟨rfl, KW.below _⟩)
set_option maxRecDepth 100000 in
set_option maxHeartbeats 12800000 in
theorem rmul_big (s t : Bool) (a b : Nat) (ha : Hid (a < M)) (hb : Hid (b < M)) (hf : ¬ a * b < M) (w : World) : Calls Try.prog 20 #[iv s a, iv t b] w (Ret (fv (sg s a * sg t b)) w) := by
  have HDA := Lib.hid (fun w => digits32_any a ha w)
  have HDB := Lib.hid (fun w => digits32_any b hb w)
  rw [← sg_mul, fv_big (by rw [sg_abs]; exact hf)]
  have hBt : fitB (a * b) = false := decide_eq_false hf
  obtain ⟨q, hL⟩ : ∃ q, low (a * b) = q := ⟨_, rfl⟩
  clear hf
  refine enter fun u => ?_
  go_enter Try.func20, Try.ntmps20
  go_wp2_with (first
    | ((with_reducible apply list_box); exact rfl; intro _ _)
    | ((with_reducible apply ls_alloc); infer_instance; intro _ _))
  try simp only [Act.put, List.setIfInBounds_toArray, List.set_cons_succ, List.set_cons_zero]
  refine region_float [(true, 0), (true, 1), (true, 3), (true, 4), (false, 2), (false, 5), (false, 6), (false, 7), (true, 8), (true, 9), (true, 10)] 11 [(false, 12), (false, 13)] _ _ (Sub.both (h := Sub.both (h := Sub.both (h := Sub.nil)))) (by kernel_rfl) rfl (by kernel_rfl) (fun _ _ _ _ _ h => by first | (simp only [Exit.then, bodyPost, defers_put] at h ⊢; exact h) | (simp only [Exit.then, Exit.inBlock, bodyPost, defers_put] at h ⊢; exact h)) ?_
  intro u5 _
  simp only [picks, List.filterMap_cons, List.filterMap_nil, List.getElem?_cons_zero, List.getElem?_cons_succ, Option.map_some]
  refine fl_value (v := _) (by rfl) (exec_mag rfl) ?_
  try simp only [Act.put, List.setIfInBounds_toArray, List.set_cons_succ, List.set_cons_zero]
  refine fl_load (by rfl) rfl inferInstance inferInstance ?_
  try simp only [Act.put, List.setIfInBounds_toArray, List.set_cons_succ, List.set_cons_zero]
  refine fl_value (v := _) (by rfl) (exec_mag rfl) ?_
  try simp only [Act.put, List.setIfInBounds_toArray, List.set_cons_succ, List.set_cons_zero]
  refine fl_load (by rfl) rfl inferInstance inferInstance ?_
  try simp only [Act.put, List.setIfInBounds_toArray, List.set_cons_succ, List.set_cons_zero]
  refine fl_both (by rfl) (by rfl) ?_ ?_
  · refine wp_allocs inferInstance inferInstance fun g8 u5 b8 => ?_
    clear b8
    try simp only [Act.put, List.setIfInBounds_toArray, List.set_cons_succ, List.set_cons_zero]
    simp only [List.cons_append, List.nil_append]
    refine mx_only (by rfl) ?_
    refine wp_enters (f := 37) (args := #[wv a]) (by go_simp) ?_
    refine (HDA.out _).mono ?_
    rintro e w' ⟨v1, x, rfl, ⟨hx1, hx2, hx3⟩, o1, b1⟩
    have R1 := o1.rd
    obtain ⟨u5, rfl⟩ := u5.go b1
    refine ⟨v1, rfl, KW.weak (h := inferInstance) u5, ?_⟩
    clear o1 b1
    try simp only [Act.put, List.setIfInBounds_toArray, List.set_cons_succ, List.set_cons_zero]
    refine mx_only (by rfl) ?_
    refine wp_enters (f := 37) (args := #[wv b]) (by go_simp) ?_
    refine (HDB.out _).mono ?_
    rintro e w' ⟨v2, y, rfl, ⟨hy1, hy2, hy3⟩, o2, b2⟩
    have R1 := R1.later b2 (Nat.le_refl _)
    have R2 := o2.rd
    obtain ⟨u5, rfl⟩ := u5.go b2
    refine ⟨v2, rfl, KW.weak (h := inferInstance) u5, ?_⟩
    clear o2 b2
    try simp only [Act.put, List.setIfInBounds_toArray, List.set_cons_succ, List.set_cons_zero]
    refine mx_only (by rfl) ?_
    refine wp_enters (f := 48) (args := #[v1, v2]) (by go_simp) ?_
    refine (times_any v1 v2 x y _ R1 R2 hx1 hy1 (by omega) (by omega)).mono ?_
    rintro e w' ⟨v3, z, rfl, ⟨hz1, hz2, hz3⟩, o3, b3⟩
    have R3 := o3.rd
    obtain ⟨u5, rfl⟩ := u5.go b3
    refine ⟨v3, rfl, KW.weak (h := inferInstance) u5, ?_⟩
    clear o3 b3
    try simp only [Act.put, List.setIfInBounds_toArray, List.set_cons_succ, List.set_cons_zero]
    refine mx_only (by rfl) ?_
    refine wp_enters (f := 44) (args := #[v3]) (by go_simp) ?_
    have FW := refWide_any v3 z _ R3 hz1 (by omega)
    rw [hz2, hx2, hy2, hL, hBt] at FW
    refine FW.mono ?_
    rintro e w' ⟨rfl, b4⟩
    obtain ⟨u5, rfl⟩ := u5.go b4
    refine ⟨_, rfl, KW.weak (h := inferInstance) u5, ?_⟩
    clear b4 FW R3 hz1 hz2 hz3 hx1 hx2 hx3 hy1 hy2 hy3
    try simp only [Act.put, List.setIfInBounds_toArray, List.set_cons_succ, List.set_cons_zero]
    refine mixg_value (v := .tuple #[wv q, .bool false]) (by rfl) (by intro w; go_simp) ?_
    try simp only [Act.put, List.setIfInBounds_toArray, List.set_cons_succ, List.set_cons_zero]
    refine mixg_value (v := wv q) (by rfl) (by intro w; go_simp) ?_
    try simp only [Act.put, List.setIfInBounds_toArray, List.set_cons_succ, List.set_cons_zero]
    refine mixg_value (v := .bool false) (by rfl) (by intro w; go_simp) ?_
    try simp only [Act.put, List.setIfInBounds_toArray, List.set_cons_succ, List.set_cons_zero]
    refine mixg_store (by rfl) rfl rfl inferInstance inferInstance inferInstance inferInstance fun u5 => ?_
    refine mixg_then (v := .bool false) (by rfl) (by go_simp) (KW.weak (h := inferInstance) u5) ?_
    try simp only [Act.put, List.setIfInBounds_toArray, List.set_cons_succ, List.set_cons_zero]
    refine mix_nil ?_
    go_wp2_with (first
      | ((with_reducible apply ls_load); exact rfl; infer_instance; infer_instance)
      | ((with_reducible apply ls_store); exact rfl; exact rfl; infer_instance; infer_instance; infer_instance; intro _)
      | (with_reducible apply ls_I0))
    exact bd_cell_tmp Try.results20 rfl rfl inferInstance inferInstance ⟨rfl, KW.below _⟩
  · refine wp_enters (f := 37) (args := #[wv a]) (by go_simp) ?_
    refine (HDA.out _).mono ?_
    rintro e w' ⟨v1, x, rfl, ⟨hx1, hx2, hx3⟩, o1, b1⟩
    have R1 := o1.rd
    obtain ⟨u5, rfl⟩ := u5.go b1
    refine ⟨v1, rfl, KW.weak (h := inferInstance) u5, ?_⟩
    clear o1 b1
    try simp only [Act.put, List.setIfInBounds_toArray, List.set_cons_succ, List.set_cons_zero]
    refine fl_both (by rfl) (by rfl) ?_ ?_
    · refine wp_allocs inferInstance inferInstance fun g8 u5 b8 => ?_
      have R1 := R1.later b8 (Nat.le_refl _)
      clear b8
      try simp only [Act.put, List.setIfInBounds_toArray, List.set_cons_succ, List.set_cons_zero]
      simp only [List.cons_append, List.nil_append]
      refine mx_only (by rfl) ?_
      refine wp_enters (f := 37) (args := #[wv b]) (by go_simp) ?_
      refine (HDB.out _).mono ?_
      rintro e w' ⟨v2, y, rfl, ⟨hy1, hy2, hy3⟩, o2, b2⟩
      have R1 := R1.later b2 (Nat.le_refl _)
      have R2 := o2.rd
      obtain ⟨u5, rfl⟩ := u5.go b2
      refine ⟨v2, rfl, KW.weak (h := inferInstance) u5, ?_⟩
      clear o2 b2
      try simp only [Act.put, List.setIfInBounds_toArray, List.set_cons_succ, List.set_cons_zero]
      refine mx_only (by rfl) ?_
      refine wp_enters (f := 48) (args := #[v1, v2]) (by go_simp) ?_
      refine (times_any v1 v2 x y _ R1 R2 hx1 hy1 (by omega) (by omega)).mono ?_
      rintro e w' ⟨v3, z, rfl, ⟨hz1, hz2, hz3⟩, o3, b3⟩
      have R3 := o3.rd
      obtain ⟨u5, rfl⟩ := u5.go b3
      refine ⟨v3, rfl, KW.weak (h := inferInstance) u5, ?_⟩
      clear o3 b3
      try simp only [Act.put, List.setIfInBounds_toArray, List.set_cons_succ, List.set_cons_zero]
      refine mx_only (by rfl) ?_
      refine wp_enters (f := 44) (args := #[v3]) (by go_simp) ?_
      have FW := refWide_any v3 z _ R3 hz1 (by omega)
      rw [hz2, hx2, hy2, hL, hBt] at FW
      refine FW.mono ?_
      rintro e w' ⟨rfl, b4⟩
      obtain ⟨u5, rfl⟩ := u5.go b4
      refine ⟨_, rfl, KW.weak (h := inferInstance) u5, ?_⟩
      clear b4 FW R3 hz1 hz2 hz3 hx1 hx2 hx3 hy1 hy2 hy3
      try simp only [Act.put, List.setIfInBounds_toArray, List.set_cons_succ, List.set_cons_zero]
      refine mixg_value (v := .tuple #[wv q, .bool false]) (by rfl) (by intro w; go_simp) ?_
      try simp only [Act.put, List.setIfInBounds_toArray, List.set_cons_succ, List.set_cons_zero]
      refine mixg_value (v := wv q) (by rfl) (by intro w; go_simp) ?_
      try simp only [Act.put, List.setIfInBounds_toArray, List.set_cons_succ, List.set_cons_zero]
      refine mixg_value (v := .bool false) (by rfl) (by intro w; go_simp) ?_
      try simp only [Act.put, List.setIfInBounds_toArray, List.set_cons_succ, List.set_cons_zero]
      refine mixg_store (by rfl) rfl rfl inferInstance inferInstance inferInstance inferInstance fun u5 => ?_
      refine mixg_then (v := .bool false) (by rfl) (by go_simp) (KW.weak (h := inferInstance) u5) ?_
      try simp only [Act.put, List.setIfInBounds_toArray, List.set_cons_succ, List.set_cons_zero]
      refine mix_nil ?_
      go_wp2_with (first
        | ((with_reducible apply ls_load); exact rfl; infer_instance; infer_instance)
        | ((with_reducible apply ls_store); exact rfl; exact rfl; infer_instance; infer_instance; infer_instance; intro _)
        | (with_reducible apply ls_I0))
      exact bd_cell_tmp Try.results20 rfl rfl inferInstance inferInstance ⟨rfl, KW.below _⟩
    · refine wp_enters (f := 37) (args := #[wv b]) (by go_simp) ?_
      refine (HDB.out _).mono ?_
      rintro e w' ⟨v2, y, rfl, ⟨hy1, hy2, hy3⟩, o2, b2⟩
      have R1 := R1.later b2 (Nat.le_refl _)
      have R2 := o2.rd
      obtain ⟨u5, rfl⟩ := u5.go b2
      refine ⟨v2, rfl, KW.weak (h := inferInstance) u5, ?_⟩
      clear o2 b2
      try simp only [Act.put, List.setIfInBounds_toArray, List.set_cons_succ, List.set_cons_zero]
      refine fl_both (by rfl) (by rfl) ?_ ?_
      · refine wp_allocs inferInstance inferInstance fun g8 u5 b8 => ?_
        have R1 := R1.later b8 (Nat.le_refl _)
        have R2 := R2.later b8 (Nat.le_refl _)
        clear b8
        try simp only [Act.put, List.setIfInBounds_toArray, List.set_cons_succ, List.set_cons_zero]
        simp only [List.cons_append, List.nil_append]
        refine mx_only (by rfl) ?_
        refine wp_enters (f := 48) (args := #[v1, v2]) (by go_simp) ?_
        refine (times_any v1 v2 x y _ R1 R2 hx1 hy1 (by omega) (by omega)).mono ?_
        rintro e w' ⟨v3, z, rfl, ⟨hz1, hz2, hz3⟩, o3, b3⟩
        have R3 := o3.rd
        obtain ⟨u5, rfl⟩ := u5.go b3
        refine ⟨v3, rfl, KW.weak (h := inferInstance) u5, ?_⟩
        clear o3 b3
        try simp only [Act.put, List.setIfInBounds_toArray, List.set_cons_succ, List.set_cons_zero]
        refine mx_only (by rfl) ?_
        refine wp_enters (f := 44) (args := #[v3]) (by go_simp) ?_
        have FW := refWide_any v3 z _ R3 hz1 (by omega)
        rw [hz2, hx2, hy2, hL, hBt] at FW
        refine FW.mono ?_
        rintro e w' ⟨rfl, b4⟩
        obtain ⟨u5, rfl⟩ := u5.go b4
        refine ⟨_, rfl, KW.weak (h := inferInstance) u5, ?_⟩
        clear b4 FW R3 hz1 hz2 hz3 hx1 hx2 hx3 hy1 hy2 hy3
        try simp only [Act.put, List.setIfInBounds_toArray, List.set_cons_succ, List.set_cons_zero]
        refine mixg_value (v := .tuple #[wv q, .bool false]) (by rfl) (by intro w; go_simp) ?_
        try simp only [Act.put, List.setIfInBounds_toArray, List.set_cons_succ, List.set_cons_zero]
        refine mixg_value (v := wv q) (by rfl) (by intro w; go_simp) ?_
        try simp only [Act.put, List.setIfInBounds_toArray, List.set_cons_succ, List.set_cons_zero]
        refine mixg_value (v := .bool false) (by rfl) (by intro w; go_simp) ?_
        try simp only [Act.put, List.setIfInBounds_toArray, List.set_cons_succ, List.set_cons_zero]
        refine mixg_store (by rfl) rfl rfl inferInstance inferInstance inferInstance inferInstance fun u5 => ?_
        refine mixg_then (v := .bool false) (by rfl) (by go_simp) (KW.weak (h := inferInstance) u5) ?_
        try simp only [Act.put, List.setIfInBounds_toArray, List.set_cons_succ, List.set_cons_zero]
        refine mix_nil ?_
        go_wp2_with (first
          | ((with_reducible apply ls_load); exact rfl; infer_instance; infer_instance)
          | ((with_reducible apply ls_store); exact rfl; exact rfl; infer_instance; infer_instance; infer_instance; intro _)
          | (with_reducible apply ls_I0))
        exact bd_cell_tmp Try.results20 rfl rfl inferInstance inferInstance ⟨rfl, KW.below _⟩
      · refine wp_enters (f := 48) (args := #[v1, v2]) (by go_simp) ?_
        refine (times_any v1 v2 x y _ R1 R2 hx1 hy1 (by omega) (by omega)).mono ?_
        rintro e w' ⟨v3, z, rfl, ⟨hz1, hz2, hz3⟩, o3, b3⟩
        have R3 := o3.rd
        obtain ⟨u5, rfl⟩ := u5.go b3
        refine ⟨v3, rfl, KW.weak (h := inferInstance) u5, ?_⟩
        clear o3 b3
        try simp only [Act.put, List.setIfInBounds_toArray, List.set_cons_succ, List.set_cons_zero]
        refine fl_both (by rfl) (by rfl) ?_ ?_
        · refine wp_allocs inferInstance inferInstance fun g8 u5 b8 => ?_
          have R3 := R3.later b8 (Nat.le_refl _)
          clear b8
          try simp only [Act.put, List.setIfInBounds_toArray, List.set_cons_succ, List.set_cons_zero]
          simp only [List.cons_append, List.nil_append]
          refine mx_only (by rfl) ?_
          refine wp_enters (f := 44) (args := #[v3]) (by go_simp) ?_
          have FW := refWide_any v3 z _ R3 hz1 (by omega)
          rw [hz2, hx2, hy2, hL, hBt] at FW
          refine FW.mono ?_
          rintro e w' ⟨rfl, b4⟩
          obtain ⟨u5, rfl⟩ := u5.go b4
          refine ⟨_, rfl, KW.weak (h := inferInstance) u5, ?_⟩
          clear b4 FW R3 hz1 hz2 hz3 hx1 hx2 hx3 hy1 hy2 hy3
          try simp only [Act.put, List.setIfInBounds_toArray, List.set_cons_succ, List.set_cons_zero]
          refine mixg_value (v := .tuple #[wv q, .bool false]) (by rfl) (by intro w; go_simp) ?_
          try simp only [Act.put, List.setIfInBounds_toArray, List.set_cons_succ, List.set_cons_zero]
          refine mixg_value (v := wv q) (by rfl) (by intro w; go_simp) ?_
          try simp only [Act.put, List.setIfInBounds_toArray, List.set_cons_succ, List.set_cons_zero]
          refine mixg_value (v := .bool false) (by rfl) (by intro w; go_simp) ?_
          try simp only [Act.put, List.setIfInBounds_toArray, List.set_cons_succ, List.set_cons_zero]
          refine mixg_store (by rfl) rfl rfl inferInstance inferInstance inferInstance inferInstance fun u5 => ?_
          refine mixg_then (v := .bool false) (by rfl) (by go_simp) (KW.weak (h := inferInstance) u5) ?_
          try simp only [Act.put, List.setIfInBounds_toArray, List.set_cons_succ, List.set_cons_zero]
          refine mix_nil ?_
          go_wp2_with (first
            | ((with_reducible apply ls_load); exact rfl; infer_instance; infer_instance)
            | ((with_reducible apply ls_store); exact rfl; exact rfl; infer_instance; infer_instance; infer_instance; intro _)
            | (with_reducible apply ls_I0))
          exact bd_cell_tmp Try.results20 rfl rfl inferInstance inferInstance ⟨rfl, KW.below _⟩
        · refine wp_enters (f := 44) (args := #[v3]) (by go_simp) ?_
          have FW := refWide_any v3 z _ R3 hz1 (by omega)
          rw [hz2, hx2, hy2, hL, hBt] at FW
          refine FW.mono ?_
          rintro e w' ⟨rfl, b4⟩
          obtain ⟨u5, rfl⟩ := u5.go b4
          refine ⟨_, rfl, KW.weak (h := inferInstance) u5, ?_⟩
          clear b4 FW R3 hz1 hz2 hz3 hx1 hx2 hx3 hy1 hy2 hy3
          try simp only [Act.put, List.setIfInBounds_toArray, List.set_cons_succ, List.set_cons_zero]
          refine fl_value (v := .tuple #[wv q, .bool false]) (by rfl) (by intro w; go_simp) ?_
          try simp only [Act.put, List.setIfInBounds_toArray, List.set_cons_succ, List.set_cons_zero]
          refine fl_value (v := wv q) (by rfl) (by intro w; go_simp) ?_
          try simp only [Act.put, List.setIfInBounds_toArray, List.set_cons_succ, List.set_cons_zero]
          refine fl_value (v := .bool false) (by rfl) (by intro w; go_simp) ?_
          try simp only [Act.put, List.setIfInBounds_toArray, List.set_cons_succ, List.set_cons_zero]
          refine fl_nil (by rfl) ?_
          refine wp_allocs inferInstance inferInstance fun g8 u5 b8 => ?_
          clear b8
          try simp only [Act.put, List.setIfInBounds_toArray, List.set_cons_succ, List.set_cons_zero]
          refine mixg_store (by rfl) rfl rfl inferInstance inferInstance inferInstance inferInstance fun u5 => ?_
          refine mixg_then (v := .bool false) (by rfl) (by go_simp) (KW.weak (h := inferInstance) u5) ?_
          try simp only [Act.put, List.setIfInBounds_toArray, List.set_cons_succ, List.set_cons_zero]
          refine mix_nil ?_
          go_wp2_with (first
            | ((with_reducible apply ls_load); exact rfl; infer_instance; infer_instance)
            | ((with_reducible apply ls_store); exact rfl; exact rfl; infer_instance; infer_instance; infer_instance; intro _)
            | (with_reducible apply ls_I0))
          exact bd_cell_tmp Try.results20 rfl rfl inferInstance inferInstance ⟨rfl, KW.below _⟩
theorem rmul_any (s t : Bool) (a b : Nat) (ha : Hid (a < M)) (hb : Hid (b < M)) (w : World) : Calls Try.prog 20 #[iv s a, iv t b] w (Ret (fv (sg s a * sg t b)) w) := by
  by_cases hf : a * b < M
  · exact rmul_fit s t a b ha hb hf w
  · exact rmul_big s t a b ha hb hf w
end Go.Proofs.Ytpcbnciihohdjaa.SignW

/- The document's own answers of layer 5: order, digits: contracts over the translation. -/
namespace Go.Proofs.Ytpcbnciihohdjaa.SignW
open Go.RowKit
open DigM WideM WideV KM DigW WideW QuotW QuotM DecM FmtW SignM
open Go.Lib (decDigits nDigits)
/-- what is left of a comparison: a number z that may be, which lies to 0 as the difference does -/
theorem cmp_cases (z : Int) : (ng z = true ∧ cmpZ z = -1) ∨ (ng z = false ∧ z.natAbs = 0 ∧ cmpZ z = 0) ∨ (ng z = false ∧ z.natAbs ≠ 0 ∧ cmpZ z = 1) := by
  unfold ng cmpZ
  by_cases h : z < 0
  · exact Or.inl ⟨decide_eq_true h, if_pos h⟩
  · rw [if_neg h]
    by_cases h0 : z = 0
    · exact Or.inr (Or.inl ⟨decide_eq_false h, by omega, if_pos h0⟩)
    · exact Or.inr (Or.inr ⟨decide_eq_false h, by omega, if_neg h0⟩)
theorem cmpZ_far {x y : Int} (_hx : x.natAbs < M) (hy : y.natAbs < M) (h : ¬ (x - y).natAbs < M) : cmpZ x = cmpZ (x - y) := by
  unfold cmpZ
  by_cases h1 : x < 0
  · rw [if_pos h1, if_pos (by omega)]
  · rw [if_neg h1, if_neg (by omega), if_neg (by omega), if_neg (by omega)]
theorem eqF5 (y : Nat) (hy : y < M) (h : ¬ y = 0) (w : World) : (Op.equalIn 10000 24 (.agg (cells 8 y)) (.agg (cells 8 0))).run Try.prog w = .ok false w := by
  rw [eqlW y 0 hy M_pos w, show eqB y 0 = false from decide_eq_false h]
set_option maxRecDepth 100000 in
set_option maxHeartbeats 6400000 in
theorem rcmp_fit (s t : Bool) (a b : Nat) (ha : Hid (a < M)) (hb : Hid (b < M)) (hf : (sg s a - sg t b).natAbs < M) (w : World) : Calls Try.prog 21 #[iv s a, iv t b] w (Ret (.int .i64 (cmpZ (sg s a - sg t b))) w) := by
  have HX := Lib.hid (fun w => rfix_any s a ha w)
  have HY := Lib.hid (fun w => rless_any t b hb w)
  have hy0 := nv_lt (show (sg t b).natAbs < M by rw [sg_abs]; exact hb.out)
  have hxM : (sg s a).natAbs < M := by rw [sg_abs]; exact ha.out
  have HA := fun w => radd_any (ng (sg s a)) (ng (- sg t b)) (sg s a).natAbs (- sg t b).natAbs (Lib.hid hxM) (Lib.hid hy0) w
  rw [sg_ng, sg_ng, ← Int.sub_eq_add_neg] at HA
  rw [fv_fit hf] at HA
  have hc := cmp_cases (sg s a - sg t b)
  have HM := Lib.hid hf
  have HA := Lib.hid HA
  clear hy0 hxM hf
  unfold nv at HX HY HA
  generalize cmpZ (sg s a - sg t b) = c at *
  generalize ng (sg s a - sg t b) = p at *
  generalize (sg s a - sg t b).natAbs = m at *
  generalize ng (sg s a) = px at *
  generalize (sg s a).natAbs = mx at *
  generalize ng (- sg t b) = py at *
  generalize (- sg t b).natAbs = my at *
  refine enter fun u => ?_
  go_enter Try.func21, Try.ntmps21
  go_wp2_with (first
    | ((with_reducible apply list_box); exact rfl; intro _ _))
  try simp only [Act.put, List.setIfInBounds_toArray, List.set_cons_succ, List.set_cons_zero]
  refine region_mixS [.take 0, .take 2, .take 1, .take 3, .take 4, .take 5, .take 6, .take 7, .sole 8, .sole 9, .sole 10] _ (Sub.both (h := Sub.both (h := Sub.nil))) (by kernel_rfl) (by kernel_rfl) ?_
  simp only [picksM, Mv.pick, List.filterMap_cons, List.filterMap_nil, List.getElem?_cons_zero, List.getElem?_cons_succ, Option.map_some]
  refine sm_load rfl inferInstance inferInstance ?_
  try simp only [Act.put, List.setIfInBounds_toArray, List.set_cons_succ, List.set_cons_zero]
  refine sm_load rfl inferInstance inferInstance ?_
  try simp only [Act.put, List.setIfInBounds_toArray, List.set_cons_succ, List.set_cons_zero]
  refine sm_call (f := 33) (args := #[iv s a]) (by intro w; go_simp) (fun _ u => HX.out _) ?_
  try simp only [Act.put, List.setIfInBounds_toArray, List.set_cons_succ, List.set_cons_zero]
  refine sm_call (f := 49) (args := #[iv t b]) (by intro w; go_simp) (fun _ u => HY.out _) ?_
  try simp only [Act.put, List.setIfInBounds_toArray, List.set_cons_succ, List.set_cons_zero]
  refine sm_call (f := 19) (args := #[iv px mx, iv py my]) (by intro w; go_simp) (fun _ u => HA.out _) ?_
  try simp only [Act.put, List.setIfInBounds_toArray, List.set_cons_succ, List.set_cons_zero]
  refine sm_value (v := .tuple #[iv p m, .bool true]) (by intro w; go_simp) ?_
  try simp only [Act.put, List.setIfInBounds_toArray, List.set_cons_succ, List.set_cons_zero]
  refine sm_value (v := iv p m) (by intro w; go_simp) ?_
  try simp only [Act.put, List.setIfInBounds_toArray, List.set_cons_succ, List.set_cons_zero]
  refine sm_value (v := .bool true) (by intro w; go_simp) ?_
  try simp only [Act.put, List.setIfInBounds_toArray, List.set_cons_succ, List.set_cons_zero]
  refine so_alloc inferInstance inferInstance fun _ => ?_
  try simp only [Act.put, List.setIfInBounds_toArray, List.set_cons_succ, List.set_cons_zero]
  refine so_store rfl rfl inferInstance inferInstance inferInstance inferInstance ?_
  try simp only [Act.put, List.setIfInBounds_toArray, List.set_cons_succ, List.set_cons_zero]
  refine so_value (v := .bool true) inferInstance (by intro w; go_simp) ?_
  try simp only [Act.put, List.setIfInBounds_toArray, List.set_cons_succ, List.set_cons_zero]
  refine sm_nil fun u7 => ?_
  rcases hc with ⟨rfl, rfl⟩ | ⟨rfl, rfl, rfl⟩ | ⟨rfl, hm, rfl⟩
  · go_wp2_with (first
      | ((with_reducible apply ls_load); exact rfl; infer_instance; infer_instance)
      | ((with_reducible apply ls_store); exact rfl; exact rfl; infer_instance; infer_instance; infer_instance; intro _))
    go_ret
    exact ⟨rfl, KW.below _⟩
  · go_wp2_with (first
      | ((with_reducible apply ls_load); exact rfl; infer_instance; infer_instance)
      | ((with_reducible apply ls_store); exact rfl; exact rfl; infer_instance; infer_instance; infer_instance; intro _)
      | (with_reducible apply ls_W0))
    go_ret
    exact ⟨rfl, KW.below _⟩
  · have heq := eqF5 m HM.out hm
    clear hm
    go_wp2_with (first
      | ((with_reducible apply ls_load); exact rfl; infer_instance; infer_instance)
      | ((with_reducible apply ls_store); exact rfl; exact rfl; infer_instance; infer_instance; infer_instance; intro _)
      | (with_reducible apply ls_W0))
    go_ret
    exact ⟨rfl, KW.below _⟩
set_option maxRecDepth 100000 in
set_option maxHeartbeats 6400000 in
theorem rcmp_big (s t : Bool) (a b : Nat) (ha : Hid (a < M)) (hb : Hid (b < M)) (hf : ¬ (sg s a - sg t b).natAbs < M) (w : World) : Calls Try.prog 21 #[iv s a, iv t b] w (Ret (.int .i64 (cmpZ (sg s a - sg t b))) w) := by
  have HX := Lib.hid (fun w => rfix_any s a ha w)
  have HY := Lib.hid (fun w => rless_any t b hb w)
  have hy0 := nv_lt (show (sg t b).natAbs < M by rw [sg_abs]; exact hb.out)
  have hxM : (sg s a).natAbs < M := by rw [sg_abs]; exact ha.out
  have HA := fun w => radd_any (ng (sg s a)) (ng (- sg t b)) (sg s a).natAbs (- sg t b).natAbs (Lib.hid hxM) (Lib.hid hy0) w
  rw [sg_ng, sg_ng, ← Int.sub_eq_add_neg] at HA
  rw [fv_big hf] at HA
  have hc := cmp_cases (sg s a)
  have e := cmpZ_far hxM (show (sg t b).natAbs < M by rw [sg_abs]; exact hb.out) hf
  rw [e] at hc
  have HM := Lib.hid hxM
  have HA := Lib.hid HA
  clear hy0 hf e hxM
  unfold nv at HX HY
  generalize cmpZ (sg s a - sg t b) = c at *
  generalize ng (sg s a) = p at *
  generalize (sg s a).natAbs = m at *
  generalize ng (- sg t b) = py at *
  generalize (- sg t b).natAbs = my at *
  refine enter fun u => ?_
  go_enter Try.func21, Try.ntmps21
  go_wp2_with (first
    | ((with_reducible apply list_box); exact rfl; intro _ _))
  try simp only [Act.put, List.setIfInBounds_toArray, List.set_cons_succ, List.set_cons_zero]
  refine region_mixS [.take 0, .take 2, .take 1, .take 3, .take 4, .take 5, .take 6, .take 7, .sole 8, .sole 9, .sole 10] _ (Sub.both (h := Sub.both (h := Sub.nil))) (by kernel_rfl) (by kernel_rfl) ?_
  simp only [picksM, Mv.pick, List.filterMap_cons, List.filterMap_nil, List.getElem?_cons_zero, List.getElem?_cons_succ, Option.map_some]
  refine sm_load rfl inferInstance inferInstance ?_
  try simp only [Act.put, List.setIfInBounds_toArray, List.set_cons_succ, List.set_cons_zero]
  refine sm_load rfl inferInstance inferInstance ?_
  try simp only [Act.put, List.setIfInBounds_toArray, List.set_cons_succ, List.set_cons_zero]
  refine sm_call (f := 33) (args := #[iv s a]) (by intro w; go_simp) (fun _ u => HX.out _) ?_
  try simp only [Act.put, List.setIfInBounds_toArray, List.set_cons_succ, List.set_cons_zero]
  refine sm_call (f := 49) (args := #[iv t b]) (by intro w; go_simp) (fun _ u => HY.out _) ?_
  try simp only [Act.put, List.setIfInBounds_toArray, List.set_cons_succ, List.set_cons_zero]
  refine sm_call (f := 19) (args := #[iv p m, iv py my]) (by intro w; go_simp) (fun _ u => HA.out _) ?_
  try simp only [Act.put, List.setIfInBounds_toArray, List.set_cons_succ, List.set_cons_zero]
  refine sm_value (v := .tuple #[iv false 0, .bool false]) (by intro w; go_simp) ?_
  try simp only [Act.put, List.setIfInBounds_toArray, List.set_cons_succ, List.set_cons_zero]
  refine sm_value (v := iv false 0) (by intro w; go_simp) ?_
  try simp only [Act.put, List.setIfInBounds_toArray, List.set_cons_succ, List.set_cons_zero]
  refine sm_value (v := .bool false) (by intro w; go_simp) ?_
  try simp only [Act.put, List.setIfInBounds_toArray, List.set_cons_succ, List.set_cons_zero]
  refine so_alloc inferInstance inferInstance fun _ => ?_
  try simp only [Act.put, List.setIfInBounds_toArray, List.set_cons_succ, List.set_cons_zero]
  refine so_store rfl rfl inferInstance inferInstance inferInstance inferInstance ?_
  try simp only [Act.put, List.setIfInBounds_toArray, List.set_cons_succ, List.set_cons_zero]
  refine so_value (v := .bool false) inferInstance (by intro w; go_simp) ?_
  try simp only [Act.put, List.setIfInBounds_toArray, List.set_cons_succ, List.set_cons_zero]
  refine sm_nil fun u7 => ?_
  rcases hc with ⟨rfl, rfl⟩ | ⟨rfl, rfl, rfl⟩ | ⟨rfl, hm, rfl⟩
  · go_wp2_with (first
      | ((with_reducible apply ls_load); exact rfl; infer_instance; infer_instance)
      | ((with_reducible apply ls_store); exact rfl; exact rfl; infer_instance; infer_instance; infer_instance; intro _)
      | (go_at_call 33; (with_reducible refine (HX.out _).mono ?_); rintro e w' ⟨rfl, hb'⟩; obtain ⟨_, rfl⟩ := KW.go _ hb'; clear hb'))
    go_ret
    exact ⟨rfl, KW.below _⟩
  · go_wp2_with (first
      | ((with_reducible apply ls_load); exact rfl; infer_instance; infer_instance)
      | ((with_reducible apply ls_store); exact rfl; exact rfl; infer_instance; infer_instance; infer_instance; intro _)
      | (with_reducible apply ls_W0)
      | (go_at_call 33; (with_reducible refine (HX.out _).mono ?_); rintro e w' ⟨rfl, hb'⟩; obtain ⟨_, rfl⟩ := KW.go _ hb'; clear hb'))
    go_ret
    exact ⟨rfl, KW.below _⟩
  · have heq := eqF5 m HM.out hm
    clear hm
    go_wp2_with (first
      | ((with_reducible apply ls_load); exact rfl; infer_instance; infer_instance)
      | ((with_reducible apply ls_store); exact rfl; exact rfl; infer_instance; infer_instance; infer_instance; intro _)
      | (with_reducible apply ls_W0)
      | (go_at_call 33; (with_reducible refine (HX.out _).mono ?_); rintro e w' ⟨rfl, hb'⟩; obtain ⟨_, rfl⟩ := KW.go _ hb'; clear hb'))
    go_ret
    exact ⟨rfl, KW.below _⟩
theorem rcmp_any (s t : Bool) (a b : Nat) (ha : Hid (a < M)) (hb : Hid (b < M)) (w : World) : Calls Try.prog 21 #[iv s a, iv t b] w (Ret (.int .i64 (cmpZ (sg s a - sg t b))) w) := by
  by_cases hf : (sg s a - sg t b).natAbs < M
  · exact rcmp_fit s t a b ha hb hf w
  · exact rcmp_big s t a b ha hb hf w
end Go.Proofs.Ytpcbnciihohdjaa.SignW

/- The laws of layer 5: the layer's own example; contracts on numbers that may be. -/
namespace Go.Proofs.Ytpcbnciihohdjaa.SignW
open Go.RowKit
open DigM WideM WideV KM DigW WideW QuotW QuotM DecM FmtW SignM
open Go.Lib (decDigits nDigits)
def TrueAt5 (w : World) (e : Ending) (w' : World) : Prop := e = .returned (.bool true) ∧ Below w.heap.size w w'
section
variable {x y : Int} (hx : Hid (x.natAbs < M)) (hy : Hid (y.natAbs < M)) (w : World)
include hx
theorem sfix_nv : Calls Try.prog 56 #[nv x] w (Ret (nv x) w) := by have := fix_any (ng x) x.natAbs hx w; rwa [sg_ng] at this
theorem small_nv : Calls Try.prog 50 #[nv x] w (Ret (smallV x) w) := by have := small_any (ng x) x.natAbs hx w; rwa [sg_ng] at this
theorem rfix_nv : Calls Try.prog 33 #[nv x] w (Ret (nv x) w) := by have := rfix_any (ng x) x.natAbs hx w; rwa [sg_ng] at this
theorem rless_nv : Calls Try.prog 49 #[nv x] w (Ret (nv (-x)) w) := by have := rless_any (ng x) x.natAbs hx w; rwa [sg_ng] at this
include hy
theorem sadd_nv : Calls Try.prog 38 #[nv x, nv y] w (Ret (fv (x + y)) w) := by have := sadd_any (ng x) (ng y) x.natAbs y.natAbs hx hy w; rwa [sg_ng, sg_ng] at this
theorem smul_nv : Calls Try.prog 41 #[nv x, nv y] w (Ret (fv (x * y)) w) := by have := smul_any (ng x) (ng y) x.natAbs y.natAbs hx hy w; rwa [sg_ng, sg_ng] at this
theorem scmp_any (w : World) : Calls Try.prog 42 #[nv x, nv y] w (Ret (.int .i64 (cmpZ (x - y))) w) := scmp_nv x y hx hy (ng x) (ng y) x.natAbs y.natAbs (sg_ng x) (sg_ng y) hx hy w
theorem radd_nv : Calls Try.prog 19 #[nv x, nv y] w (Ret (fv (x + y)) w) := by have := radd_any (ng x) (ng y) x.natAbs y.natAbs hx hy w; rwa [sg_ng, sg_ng] at this
theorem rmul_nv : Calls Try.prog 20 #[nv x, nv y] w (Ret (fv (x * y)) w) := by have := rmul_any (ng x) (ng y) x.natAbs y.natAbs hx hy w; rwa [sg_ng, sg_ng] at this
theorem rcmp_nv : Calls Try.prog 21 #[nv x, nv y] w (Ret (.int .i64 (cmpZ (x - y))) w) := by have := rcmp_any (ng x) (ng y) x.natAbs y.natAbs hx hy w; rwa [sg_ng, sg_ng] at this
end
theorem small_M {n : Nat} (h : n < 18446744073709551617) : n < M := Nat.lt_trans h m_big
theorem dig4 : decDigits 4 = [52] := by rw [DecM.dec_small (by decide)]; decide +kernel
end Go.Proofs.Ytpcbnciihohdjaa.SignW

/- Arguments of layer 5, handed in as data: structs of a sign and eight words are numbers with a sign. -/
namespace Go.Proofs.Ytpcbnciihohdjaa.SignW
open Go.RowKit Go.WideShapes Go.ChangeShapes
open WideM WideV
section
variable {P : Program} {H : Type} {enc : TypeId × Value → H} {w : World} {base : Nat} {sp : Nat → Bool} {held : Bool}
/-- cells that read as an array of integers -/
theorem arr_ints {t e : TypeId} {n fuel : Nat} {k : IntKind} {l : List Value} {x : DataW H × List MemPlace}
    (ht : P.underlying t = some (.array n e)) (he : P.underlying e = some (.int k)) (hce : P.cellsOf e = 1) (hct : P.cellsOf t = n) (hf : DataW.trod enc P w base sp held fuel t l = some x) :
    ∃ zs : List Int, l = zs.map (Value.int k) ∧ zs.length = n ∧ ∀ z ∈ zs, (Lit.int k z).wf = true := by
  obtain ⟨xs, m, _, _, hl, hxl, hx⟩ := DataW.trod_array ht hf
  rw [hct] at hl
  rw [hce] at hx
  have each : ∀ i, i < n → ∃ z, l[i]? = some (.int k z) ∧ (Lit.int k z).wf = true := by
    intro i hi
    have h1 := hx i hi
    have h2 : xs[i]? = some (xs[i]'(by omega)) := List.getElem?_eq_getElem _
    rw [h2] at h1
    obtain ⟨z, hc, _, hw⟩ := DataW.trod_int he h1
    refine ⟨z, ?_, hw⟩
    have := congrArg (·[0]?) hc
    simpa [List.getElem?_take, List.getElem?_drop] using this
  refine ⟨(List.range n).map fun i => intOf (l[i]?.getD .nilIface), ?_, by simp, ?_⟩
  · apply List.ext_getElem?
    intro i
    by_cases hi : i < n
    · obtain ⟨z, hz, _⟩ := each i hi
      simp [hi, hz, intOf]
    · simp [hi]; omega
  · intro z hz
    obtain ⟨i, hi, rfl⟩ := List.mem_map.1 hz
    rw [List.mem_range] at hi
    obtain ⟨z, hz, hw⟩ := each i hi
    rw [hz]; exact hw
end
section
variable {H : Type} {enc : TypeId × Value → H} {w : World} {base b0 : Nat} {sp : Nat → Bool} {held : Bool} {r : Reach} {v : Value} {d : DataW H} {p : List MemPlace}
set_option maxRecDepth 100000 in
theorem open_int (hv : Value.okWide Try.prog w r b0 26 v) (h : DataW.Trod enc Try.prog w base sp held 26 v d p) : ∃ (s : Bool) (a : Nat), a < M ∧ v = iv s a := by
  obtain ⟨cs, rfl, hsz⟩ := okWide_struct Try.underlying26 hv
  obtain ⟨fuel, hf⟩ := h
  obtain ⟨y0, y1, n, _, hl, h0, h1⟩ := trod_struct2 Try.underlying26 hf
  have hc0 : Try.prog.cellsOf 4 = 1 := by kernel_rfl
  have hc1 : Try.prog.cellsOf 24 = 8 := by kernel_rfl
  have hc : Try.prog.cellsOf 26 = 9 := by kernel_rfl
  have ecs : (Value.agg cs).cells.toList = cs.toList := rfl
  rw [ecs] at h0 h1 hl
  rw [hc] at hl
  replace h0 : DataW.trod enc Try.prog w base sp held n 4 ((cs.toList.drop 0).take (Try.prog.cellsOf 4)) = some y0 := h0
  replace h1 : DataW.trod enc Try.prog w base sp held n 24 ((cs.toList.drop 1).take (Try.prog.cellsOf 24)) = some y1 := h1
  rw [hc0, List.drop_zero] at h0
  rw [hc1] at h1
  obtain ⟨zs, hzs, hzl, hw⟩ := arr_ints Try.underlying24 Try.underlying22 (by kernel_rfl) hc1 h1
  obtain ⟨a, ha, ea⟩ := WideA.wide_of hzl hw
  obtain ⟨s, hs, _⟩ := DataW.trod_bool Try.underlying4 h0
  refine ⟨s, a, ha, ?_⟩
  have e : cs.toList = [.bool s] ++ (cells 8 a).toList := by
    rw [← List.take_append_drop 1 cs.toList, hs, ← ea]
    congr 1
    rw [← hzs, List.take_of_length_le (by simp [hl])]
  have e2 : cs = ([Value.bool s] ++ (cells 8 a).toList).toArray := by rw [← e]
  rw [e2]
  rfl
end
end Go.Proofs.Ytpcbnciihohdjaa.SignW

