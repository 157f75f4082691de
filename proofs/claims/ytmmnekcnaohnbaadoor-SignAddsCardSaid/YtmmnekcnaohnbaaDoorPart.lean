/-
  Parts of blocks by value, for any program: a struct's field that is itself a row of cells is loaded and stored whole; rows that are known for a type.
-/
import Derived.Test.YtmmnekcnaohnbaaDoorLow3
import Derived.Deep.MidRow
namespace KM
open Go Go.RowKit
/-- cells of type t -/
class Cel (P : Program) (t : TypeId) (c : Array Value) : Prop where
  row : Row P t c.size
  one : c.all (·.oneCell') = true
/-- the cells of c from o on are, as type t, c' -/
class Part (P : Program) (t : TypeId) (c : Array Value) (o : Nat) (c' : outParam (Array Value)) : Prop where
  row : Row P t c'.size
  at_ : ∀ j, j < c'.size → c[o + j]? = c'[j]?
instance (priority := low) Part.whole {P : Program} {t : TypeId} {c : Array Value} [h : Cel P t c] : Part P t c 0 c := ⟨h.row, fun j _ => by rw [Nat.zero_add]⟩
def splice : Array Value → Nat → List Value → Array Value
  | c, _, [] => c
  | c, o, v :: r => splice (c.setIfInBounds o v) (o + 1) r
/-- c' put into c from o on, as type t, makes c'' -/
class PutP (P : Program) (t : TypeId) (c : Array Value) (o : Nat) (c' : Array Value) (c'' : outParam (Array Value)) : Prop where
  row : Row P t c'.size
  one : c'.all (·.oneCell') = true
  fits : o + c'.size ≤ c.size
  at_ : splice c o c'.toList = c''
theorem splice_size : ∀ (vs : List Value) (c : Array Value) (o : Nat), (splice c o vs).size = c.size
  | [], _, _ => rfl
  | v :: r, c, o => by rw [splice, splice_size r]; simp
theorem splice_get : ∀ (vs : List Value) (c : Array Value) (o : Nat), o + vs.length ≤ c.size → ∀ j, (splice c o vs)[j]? = if o ≤ j ∧ j < o + vs.length then vs[j - o]? else c[j]?
  | [], c, o, _, j => by rw [if_neg (by rintro ⟨h1, h2⟩; exact absurd h2 (Nat.not_lt_of_le (by simpa using h1)))]; rfl
  | v :: r, c, o, h, j => by
    rw [List.length_cons] at h ⊢
    rw [splice, splice_get r _ (o + 1) (by simp; omega) j]
    by_cases h1 : o + 1 ≤ j ∧ j < o + 1 + r.length
    · rw [if_pos h1, if_pos (by omega), show j - o = (j - (o + 1)) + 1 by omega, List.getElem?_cons_succ]
    · rw [if_neg h1]
      by_cases e : j = o
      · subst e
        rw [if_pos (by omega), Nat.sub_self, List.getElem?_cons_zero, Array.getElem?_setIfInBounds_self_of_lt (by omega)]
      · rw [if_neg (by omega), Array.getElem?_setIfInBounds_ne (fun h => e h.symm)]
theorem splice_whole {c c' : Array Value} (h : c.size = c'.size) : splice c 0 c'.toList = c' := by
  apply Array.ext_getElem?
  intro j
  rw [splice_get _ _ _ (by simp; omega)]
  by_cases hj : j < c'.size
  · rw [if_pos (by simp; omega)]; simp
  · rw [if_neg (by simp; omega), Array.getElem?_eq_none (by omega), Array.getElem?_eq_none (by omega)]
/-- both are rows of n cells -/
theorem PutP.of {P : Program} {t : TypeId} {c c' : Array Value} (h : Cel P t c') (hn : c.size = c'.size) : PutP P t c 0 c' c' := ⟨h.row, h.one, by omega, splice_whole hn⟩
/-- c is what a new variable of type t holds -/
class ZeroC (P : Program) (t : TypeId) (c : outParam (Array Value)) : Prop where
  out : Zero P t c
section
variable {P : Program} {W : World} {L L' : List Ent}
theorem row_under {t : TypeId} {n : Nat} (h : Row P t n) : ∃ d, P.underlying t = some d ∧ d.isRow = true := by
  have h1 := h.1
  cases hd : P.underlying t with
  | none => rw [hd] at h1; simp at h1
  | some d => rw [hd] at h1; exact ⟨d, rfl, by cases d <;> simp_all⟩
theorem run_part_row {t : TypeId} {n : Nat} (hr : Row P t n) (w : World) (cs : Array Value) (off : Nat) : (part t cs off).run P w = .ok (.agg (cs.extract off (off + n))) w := by
  obtain ⟨d, hu, hd⟩ := row_under hr
  have hagg : (isAgg t).run P w = .ok true w := by
    unfold isAgg
    rw [Sem.run_bind, run_underlying hu w]
    cases d <;> simp_all
  have h2 := hr.2
  cases hq : P.info? t with
  | none => rw [hq] at h2; simp at h2
  | some i =>
    have hs : i.size = n := by rw [hq] at h2; simpa using h2
    simp [part, Sem.run_bind, hagg, Go.sizeOf, typeInfo, hq, hs]
theorem run_part (u : KW W L) {g o : Nat} {c c' : Array Value} {t t' : TypeId} (hp : Has L g c t') (hq : Part P t c o c') :
    (loadVar t ⟨g, o, none⟩).run P u.w = .ok (.agg c') u.w := by
  obtain ⟨d, hu, hd⟩ := row_under hq.row
  have := run_loadVar_mid (P := P) u.w g o t c'.toList d (fun j v hj => by
    have hj' : c'[j]? = some v := by simpa using hj
    have hl : j < c'.size := (Array.getElem?_eq_some_iff.1 hj').1
    rw [u.cell? (h := hp), hq.at_ j hl, hj']) hu hd (by rw [hq.row.2]; simp)
  simpa using this
theorem run_loadAt_part (u : KW W L) {g o : Nat} {c c' : Array Value} {t t' : TypeId} (hp : Has L g c t') (hq : Part P t c o c') :
    (Instr.loadAt t (.pointer (some ⟨g, o, none⟩))).run P u.w = .ok (.agg c') u.w := by
  simp only [Instr.loadAt, Instr.sureAddr, Sem.run_bind, Sem.run_pure, Result.andThen_ok, run_part u hp hq]
theorem KW.ex_cells {g : Nat} {t : TypeId} {A B : List Ent} : ∀ (vs : List Value) (c : Array Value) (o : Nat) (u : KW W (A ++ ⟨g, c, t⟩ :: B)), ∃ u' : KW W (A ++ ⟨g, splice c o vs, t⟩ :: B), u.w.setCells g o vs = u'.w
  | [], c, o, u => ⟨u, rfl⟩
  | v :: r, c, o, u => by
    obtain ⟨u1, h1⟩ := u.ex_cell (L' := A ++ ⟨g, c.setIfInBounds o v, t⟩ :: B) (h := ⟨⟨A, t, B, rfl, rfl⟩⟩)
    obtain ⟨u2, h2⟩ := KW.ex_cells r _ (o + 1) u1
    exact ⟨u2, by rw [World.setCells, h1, h2]⟩
theorem ex_part (u : KW W L) {g o : Nat} {c c' c'' : Array Value} {t t' : TypeId} (hp : Has L g c t') (hq : PutP P t c o c' c'') (hL : PutAll L g c'' c L') :
    ∃ u' : KW W L', (storeVar t ⟨g, o, none⟩ (.agg c')).run P u.w = .ok () u'.w := by
  obtain ⟨A, t1, B, rfl, rfl⟩ := hL.out
  obtain ⟨u', hu'⟩ := KW.ex_cells (g := g) c'.toList c o u
  have e := hq.at_
  subst e
  refine ⟨u', ?_⟩
  have hm := u.mem ⟨g, c, t1⟩ (by simp)
  have hb : u.w.heap[g]? = some (.cells c t1 (0, 0)) := hm.1
  rw [← hu']
  have hf := hq.fits
  refine run_storeVar_mid (P := P) u.w g o t c' (fun j hj => ⟨?_, ?_⟩) hq.row.2 hq.one
  · rw [cell_of_row _ _ _ _ _ _ hb, Array.getElem?_eq_getElem (by omega)]; rfl
  · exact frozen_of_row _ _ _ _ _ hb
end
/-- v put into c at o, as a variable of type t, makes c' -/
class PutV (P : Program) (t : TypeId) (c : Array Value) (o : Nat) (v : Value) (c' : outParam (Array Value)) : Prop where
  size : (P.info? t).map (·.size) = some 1
  one : v.oneCell' = true
  cells : v.cells = #[v]
  fits : o < c.size
  at_ : c.setIfInBounds o v = c'
theorem ex_put {P : Program} {W : World} {L L' : List Ent} (u : KW W L) {g o : Nat} {c c' : Array Value} {t t' : TypeId} {v : Value} (hp : Has L g c t') (hq : PutV P t c o v c') (hL : PutAll L g c' c L') :
    ∃ u' : KW W L', (storeVar t ⟨g, o, none⟩ v).run P u.w = .ok () u'.w := by
  obtain ⟨A, t1, B, rfl, rfl⟩ := hL.out
  have e := hq.at_
  subst e
  obtain ⟨u', hu'⟩ := KW.ex_cells (g := g) [v] c o u
  refine ⟨u', ?_⟩
  have hb : u.w.heap[g]? = some (.cells c t1 (0, 0)) := (u.mem ⟨g, c, t1⟩ (by simp)).1
  rw [← hu']
  have hf := hq.fits
  have h1 := run_storeVar_mid (P := P) u.w g o t #[v] (fun j hj => ⟨by rw [cell_of_row _ _ _ _ _ _ hb, Array.getElem?_eq_getElem (by simp at hj; omega)]; rfl, frozen_of_row _ _ _ _ _ hb⟩) hq.size (by simpa using hq.one)
  have h2 : storeVar t ⟨g, o, none⟩ v = storeVar t ⟨g, o, none⟩ (.agg #[v]) := by
    unfold storeVar
    rw [hq.cells, show (Value.agg #[v]).cells = #[v] from rfl]
  rw [h2]
  exact h1
section
variable {P : Program} {ops : Array Oper} {Q : Exit → Act → World → Prop} {rest : List Oper} {a : Act} {W : World} {L L' Lc : List Ent} {u : KW W L}
  {d : Tmp} {t ty : TypeId} {ps : String} {af : Array Edge} {x y : Operand} {T : Act → Prop}
theorem ls_alloc {c : Array Value} (hz : ZeroC P t c) (h : ∀ (g : Nat) (u' : KW W (⟨g, c, t⟩ :: L)), wpList P ops Q rest (a.put (some d) (.pointer (some ⟨g, 0, none⟩))) u'.w) :
    wpList P ops Q (⟨some d, .alloc t, ty, ps, af, none⟩ :: rest) a u.w := list_alloc hz.out h
theorem ls_value {op : Op} {v : Value} {w : World} {d : Option Tmp} (hv : (execOp a.eval ⟨d, op, ty, ps, af, none⟩).run P w = .ok (.value v) w) (h : wpList P ops Q rest (a.put d v) w) : wpList P ops Q (⟨d, op, ty, ps, af, none⟩ :: rest) a w := by
  refine wpList_plain rfl fun K hK => ?_
  unfold Oper.wp
  rw [hv]
  exact hK _ _ h
theorem exec_build {gd : Option (Nat × Bool)} {d : Option Tmp} {parts : Array (Nat × Operand)} {c : Array Value} (h : P.built t (parts.map fun (i, x) => (i, a.eval x)).toList = some c) (w : World) :
    (execOp a.eval ⟨d, .build t parts, ty, ps, af, gd⟩).run P w = .ok (.value (.agg c)) w := by
  unfold execOp
  simp only [Sem.run_bind, run_build w t _ c h, Result.andThen_ok, Sem.run_pure]
theorem ls_load {g o : Nat} {c c' : Array Value} {t' : TypeId} (hx : a.eval x = .pointer (some ⟨g, o, none⟩)) (hp : Has L g c t') (hq : Part P t c o c')
    (h : wpList P ops Q rest (a.put (some d) (.agg c')) u.w) : wpList P ops Q (⟨some d, .load t x, ty, ps, af, none⟩ :: rest) a u.w := by
  refine wpList_plain rfl fun K hK => ?_
  unfold Oper.wp execOp
  simp only [hx, Sem.run_bind, run_loadAt_part u hp hq, Result.andThen_ok, Sem.run_pure]
  exact hK _ _ h
theorem lsg_load {gd : Option (Nat × Bool)} {g o : Nat} {c c' : Array Value} {t' : TypeId} (hw : Region.wanted ⟨some d, .load t x, ty, ps, af, gd⟩ (yielded ops a.tmps) = true) (hx : a.eval x = .pointer (some ⟨g, o, none⟩)) (hp : Has L g c t') (hq : Part P t c o c')
    (h : wpList P ops Q rest (a.put (some d) (.agg c')) u.w) : wpList P ops Q (⟨some d, .load t x, ty, ps, af, gd⟩ :: rest) a u.w := by
  unfold wpList
  rw [if_pos hw]
  left
  unfold Oper.wp execOp
  simp only [hx, Sem.run_bind, run_loadAt_part u hp hq, Result.andThen_ok, Sem.run_pure]
  exact h
theorem lsg_value {gd : Option (Nat × Bool)} {op : Op} {v : Value} {w : World} {d : Option Tmp} (hw : Region.wanted ⟨d, op, ty, ps, af, gd⟩ (yielded ops a.tmps) = true) (hv : (execOp a.eval ⟨d, op, ty, ps, af, gd⟩).run P w = .ok (.value v) w) (h : wpList P ops Q rest (a.put d v) w) : wpList P ops Q (⟨d, op, ty, ps, af, gd⟩ :: rest) a w := by
  unfold wpList
  rw [if_pos hw]
  left
  unfold Oper.wp
  rw [hv]
  exact h
theorem ls_store {g o : Nat} {c c' c'' : Array Value} {t' : TypeId} (hx : a.eval x = .pointer (some ⟨g, o, none⟩)) (hy : a.eval y = .agg c') (hp : Has L g c t') (hq : PutP P t c o c' c'') (hL : PutAll L g c'' c L')
    (h : ∀ u' : KW W L', wpList P ops Q rest a u'.w) : wpList P ops Q (⟨none, .store t x y, ty, ps, af, none⟩ :: rest) a u.w := by
  obtain ⟨u', hu'⟩ := ex_part u hp hq hL
  refine wpList_plain rfl fun K hK => ?_
  unfold Oper.wp execOp
  simp only [hx, hy, Instr.storeAt, Instr.sureAddr, Sem.run_bind, Sem.run_pure, Result.andThen_ok, hu']
  exact hK _ _ (h u')
theorem ls_put {g o : Nat} {c c' : Array Value} {t' : TypeId} {v : Value} (hx : a.eval x = .pointer (some ⟨g, o, none⟩)) (hy : a.eval y = v) (hp : Has L g c t') (hq : PutV P t c o v c') (hL : PutAll L g c' c L')
    (h : ∀ u' : KW W L', wpList P ops Q rest a u'.w) : wpList P ops Q (⟨none, .store t x y, ty, ps, af, none⟩ :: rest) a u.w := by
  obtain ⟨u', hu'⟩ := ex_put u hp hq hL
  refine wpList_plain rfl fun K hK => ?_
  unfold Oper.wp execOp
  simp only [hx, hy, Instr.storeAt, Instr.sureAddr, Sem.run_bind, Sem.run_pure, Result.andThen_ok, hu']
  exact hK _ _ (h u')
/-! in regions that draw their order -/
theorem hd_load {g o : Nat} {c c' : Array Value} {t' : TypeId} (hx : a.eval x = .pointer (some ⟨g, o, none⟩)) (hp : Has Lc g c t') (hq : Part P t c o c')
    (h : headS P W Lc T rest (a.put (some d) (.agg c'))) : headS P W Lc T (⟨some d, .load t x, ty, ps, af, none⟩ :: rest) a := by
  refine ⟨rfl, .agg c', fun L hL u => ?_, h⟩
  have hp' : Has L g c t' := ⟨hL.out.subset hp.out⟩
  unfold execOp
  simp only [hx, Sem.run_bind, run_loadAt_part u hp' hq, Result.andThen_ok, Sem.run_pure]
  exact ⟨L, hL, ⟨u, rfl⟩, rfl, rfl⟩
theorem tl_store {g o : Nat} {c c' c'' : Array Value} {t' : TypeId} (hx : a.eval x = .pointer (some ⟨g, o, none⟩)) (hy : a.eval y = .agg c') (hp : Has L g c t') (hq : PutP P t c o c' c'') (hL : PutAll L g c'' c L') (hs : Sub Lc L')
    (h : tailS P Q W Lc rest a L') : tailS P Q W Lc (⟨none, .store t x y, ty, ps, af, none⟩ :: rest) a L := by
  refine ⟨rfl, fun u => ?_⟩
  obtain ⟨u', hu'⟩ := ex_part u hp hq hL
  unfold execOp
  simp only [hx, hy, Instr.storeAt, Instr.sureAddr, Sem.run_bind, Sem.run_pure, Result.andThen_ok, hu']
  exact ⟨L', hs, ⟨u', rfl⟩, h⟩
theorem tl_alloc {c : Array Value} (hz : ZeroC P t c) (hs : Sub Lc L) (h : ∀ g, tailS P Q W Lc rest (a.put (some d) (.pointer (some ⟨g, 0, none⟩))) (⟨g, c, t⟩ :: L)) : tailS P Q W Lc (⟨some d, .alloc t, ty, ps, af, none⟩ :: rest) a L := tailS_alloc hz.out hs h
/-! in a region whose head is quiet (region, region_tail), guards and all -/
section
variable {o : Oper} {TQ : Act → Prop} {C : World → Prop} {gd : Option (Nat × Bool)} {dq : Option Tmp} {op : Op}
theorem qt_some {v : Value} (hw : Region.wanted o (yielded ops a.tmps) = true) (hv : ∀ w, C w → o.quietAt P a C w v) (h : wpQuiet P ops C TQ rest (a.put o.dst v)) : wpQuiet P ops C TQ (o :: rest) a := by
  unfold wpQuiet
  rw [if_pos hw]
  exact ⟨v, hv, h⟩
theorem qt_skip (hw : Region.wanted o (yielded ops a.tmps) = false) (h : wpQuiet P ops C TQ rest (a.put o.dst undef)) : wpQuiet P ops C TQ (o :: rest) a := by
  unfold wpQuiet
  rw [if_neg (by rw [hw]; decide)]
  exact h
theorem qt_value {v : Value} (hw : Region.wanted ⟨dq, op, ty, ps, af, gd⟩ (yielded ops a.tmps) = true) (hv : ∀ w, (execOp a.eval ⟨dq, op, ty, ps, af, gd⟩).run P w = .ok (.value v) w) (h : wpQuiet P ops C TQ rest (a.put dq v)) : wpQuiet P ops C TQ (⟨dq, op, ty, ps, af, gd⟩ :: rest) a :=
  qt_some hw (fun w hw => by unfold Oper.quietAt; rw [hv]; exact ⟨rfl, rfl⟩) h
theorem qt_load {g o : Nat} {c c' : Array Value} {t' : TypeId} (hw : Region.wanted ⟨some d, .load t x, ty, ps, af, gd⟩ (yielded ops a.tmps) = true) (hx : a.eval x = .pointer (some ⟨g, o, none⟩)) (hp : Has L g c t') (hq : Part P t c o c')
    (h : wpQuiet P ops (fun w' => ∃ u : KW W L, w' = u.w) TQ rest (a.put (some d) (.agg c'))) : wpQuiet P ops (fun w' => ∃ u : KW W L, w' = u.w) TQ (⟨some d, .load t x, ty, ps, af, gd⟩ :: rest) a :=
  qt_some hw (by
    rintro w ⟨u, rfl⟩
    unfold Oper.quietAt execOp
    simp only [hx, Sem.run_bind, run_loadAt_part u hp hq, Result.andThen_ok, Sem.run_pure]
    exact ⟨rfl, rfl⟩) h
theorem qt_call {f : FuncId} {args : Array Value} {v : Value} (hw : Region.wanted ⟨dq, op, ty, ps, af, gd⟩ (yielded ops a.tmps) = true) (he : ∀ w, (execOp a.eval ⟨dq, op, ty, ps, af, gd⟩).run P w = .ok (.enter f args) w) (hc : ∀ u : KW W L, Calls P f args u.w (Ret v u.w))
    (h : wpQuiet P ops (fun w' => ∃ u : KW W L, w' = u.w) TQ rest (a.put dq v)) : wpQuiet P ops (fun w' => ∃ u : KW W L, w' = u.w) TQ (⟨dq, op, ty, ps, af, gd⟩ :: rest) a :=
  qt_some hw (by
    rintro w ⟨u, rfl⟩
    unfold Oper.quietAt
    rw [he]
    exact ⟨rfl, (hc u).mono fun e w' ⟨h1, h2⟩ => ⟨h1, u.go h2⟩⟩) h
end
section
variable {S : World → Prop} {w : World} {mr : List (Bool × Oper)}
/-- one that a guard leaves out -/
theorem mixg_skip {gd : Option (Nat × Bool)} {op : Op} {d : Option Tmp} (hw : Region.wanted ⟨d, op, ty, ps, af, gd⟩ (yielded ops a.tmps) = false) (h : mixT P ops S Q mr (a.put d undef) w) : mixT P ops S Q ((true, ⟨d, op, ty, ps, af, gd⟩) :: mr) a w :=
  ⟨undef, Or.inr ⟨hw, rfl⟩, h⟩
theorem mixg_part {gd : Option (Nat × Bool)} {g o : Nat} {c c' : Array Value} {t' : TypeId} (hw : Region.wanted ⟨some d, .load t x, ty, ps, af, gd⟩ (yielded ops a.tmps) = true) (hx : a.eval x = .pointer (some ⟨g, o, none⟩)) (hp : Has Lc g c t') (hq : Part P t c o c')
    (h : mixT P ops (Known W Lc) Q mr (a.put (some d) (.agg c')) w) : mixT P ops (Known W Lc) Q ((true, ⟨some d, .load t x, ty, ps, af, gd⟩) :: mr) a w := by
  refine ⟨.agg c', Or.inl ⟨hw, ?_⟩, h⟩
  rintro w ⟨u, rfl⟩
  unfold execOp
  simp only [hx, Sem.run_bind, run_loadAt_part u hp hq, Result.andThen_ok, Sem.run_pure]
theorem mixg_store {gd : Option (Nat × Bool)} {g o : Nat} {c c' c'' : Array Value} {t' : TypeId} (hw : Region.wanted ⟨none, .store t x y, ty, ps, af, gd⟩ (yielded ops a.tmps) = true) (hx : a.eval x = .pointer (some ⟨g, o, none⟩)) (hy : a.eval y = .agg c') (hp : Has L g c t') (hq : PutP P t c o c' c'') (hL : PutAll L g c'' c L') (hs : Sub Lc L')
    (h : ∀ u' : KW W L', mixT P ops (Known W Lc) Q mr a u'.w) : mixT P ops (Known W Lc) Q ((false, ⟨none, .store t x y, ty, ps, af, gd⟩) :: mr) a u.w := by
  refine ⟨hw, ?_⟩
  obtain ⟨u', hu'⟩ := ex_part u hp hq hL
  unfold Oper.wp execOp
  simp only [hx, hy, Instr.storeAt, Instr.sureAddr, Sem.run_bind, Sem.run_pure, Result.andThen_ok, hu']
  exact ⟨KW.weak (h := hs) u', h u'⟩
theorem mixg_then {gd : Option (Nat × Bool)} {op : Op} {d : Option Tmp} {v : Value} (hw : Region.wanted ⟨d, op, ty, ps, af, gd⟩ (yielded ops a.tmps) = true) (hv : (execOp a.eval ⟨d, op, ty, ps, af, gd⟩).run P w = .ok (.value v) w) (hS : S w) (h : mixT P ops S Q mr (a.put d v) w) : mixT P ops S Q ((false, ⟨d, op, ty, ps, af, gd⟩) :: mr) a w :=
  ⟨hw, by unfold Oper.wp; rw [hv]; exact ⟨hS, h⟩⟩
end
end
/-! ### two allocs that may come in either order -/
section
variable {P : Program} {ops : Array Oper} {md : Region.Mode} {Q : Exit → Act → World → Prop} {W : World} {Lc : List Ent}
theorem KW.perm {W : World} {L L' : List Ent} (h : L.Perm L') (u : KW W L) : ∃ u' : KW W L', u.w = u'.w :=
  ⟨⟨u.w, u.below, fun e he => u.mem e (h.mem_iff.2 he), (h.map Ent.g).nodup_iff.1 u.nodup⟩, rfl⟩
theorem StepE.perm {m : Sem Next} {L L' : List Ent} {K : Value → List Ent → Prop} (h : L'.Perm L) (hs : StepE P W Lc m L K) : StepE P W Lc m L' K := fun u => by
  obtain ⟨u', hu'⟩ := u.perm h
  rw [hu']
  exact hs u'
theorem anyS_perm {f : Nat} {ls : Array Bool} {a : Act} {L L' : List Ent} (h : L'.Perm L) (hs : anyS P md ops Q W Lc f ls a L) : anyS P md ops Q W Lc f ls a L' := by
  have hw : (∀ u : KW W L, Q .normal a u.w) → ∀ u : KW W L', Q .normal a u.w := fun h1 u => by
    obtain ⟨u', hu'⟩ := u.perm h
    rw [hu']
    exact h1 u'
  cases f with
  | zero => exact ⟨hs.1, hw hs.2⟩
  | succ f =>
    refine ⟨fun h0 => hw (hs.1 h0), fun i hi => ?_⟩
    obtain ⟨o, ho, hg, hst⟩ := hs.2 i hi
    exact ⟨o, ho, hg, hst.perm h⟩
theorem stepE_alloc {a : Act} {L : List Ent} {d : Option Tmp} {t ty : TypeId} {ps : String} {af : Array Edge} {gd : Option (Nat × Bool)} {c : Array Value} {K : Value → List Ent → Prop} (hz : ZeroC P t c) (hs : Sub Lc L) (h : ∀ g, K (.pointer (some ⟨g, 0, none⟩)) (⟨g, c, t⟩ :: L)) :
    StepE P W Lc (execOp a.eval ⟨d, .alloc t, ty, ps, af, gd⟩) L K := fun u => by
  obtain ⟨i, hi, hz'⟩ := Option.map_eq_some_iff.1 hz.out
  obtain ⟨v, hv, rfl⟩ := Option.map_eq_some_iff.1 hz'
  have hr : (Instr.alloc t true (.tuple #[])).run P u.w = .ok (.pointer (some ⟨u.w.heap.size, 0, none⟩)) (u.alloc v.cells t).w := by
    simp [Instr.alloc, zeroValue, typeInfo, hi, hv, newVar, newRow, KW.alloc, go_sem]
  unfold execOp
  simp only [Sem.run_bind, hr, Result.andThen_ok, Sem.run_pure]
  exact ⟨_, Sub.skip (h := hs), ⟨u.alloc v.cells t, rfl⟩, h _⟩
def twoB (md : Region.Mode) (ops : Array Oper) (i j : Nat) (ls : Array Bool) : Bool :=
  decide (Region.ready md ops ls = [i, j]) && decide (Region.ready md ops (ls.setIfInBounds i true) = [j]) && decide (Region.ready md ops (ls.setIfInBounds j true) = [i])
theorem any_allocs {i j d e : Nat} {t t' ty ty' : TypeId} {ps ps' : String} {af af' : Array Edge} {f : Nat} {ls : Array Bool} {a : Act} {L : List Ent} {c c' : Array Value}
    (hi : ops[i]? = some ⟨some d, .alloc t, ty, ps, af, none⟩) (hj : ops[j]? = some ⟨some e, .alloc t', ty', ps', af', none⟩) (hde : d ≠ e) (hij : i ≠ j) (hB : twoB md ops i j ls = true) (hs : Sub Lc L) (hz : ZeroC P t c) (hz' : ZeroC P t' c')
    (h : ∀ g g', anyS P md ops Q W Lc f ((ls.setIfInBounds i true).setIfInBounds j true) ((a.put (some d) (.pointer (some ⟨g, 0, none⟩))).put (some e) (.pointer (some ⟨g', 0, none⟩))) (⟨g', c', t'⟩ :: ⟨g, c, t⟩ :: L)) :
    anyS P md ops Q W Lc (f + 2) ls a L := by
  simp only [twoB, Bool.and_eq_true, decide_eq_true_eq] at hB
  refine ⟨fun h0 => (by rw [hB.1.1] at h0; cases h0), fun k hk => ?_⟩
  rw [hB.1.1] at hk
  rcases List.mem_cons.1 hk with rfl | hk
  · refine ⟨_, hi, rfl, stepE_alloc hz hs fun g => ⟨fun h0 => (by rw [hB.1.2] at h0; cases h0), fun k' hk' => ?_⟩⟩
    rw [hB.1.2] at hk'
    obtain rfl : k' = j := by simpa using hk'
    exact ⟨_, hj, rfl, stepE_alloc hz' (Sub.skip (h := hs)) fun g' => h g g'⟩
  · obtain rfl : k = j := by simpa using hk
    refine ⟨_, hj, rfl, stepE_alloc hz' hs fun g' => ⟨fun h0 => (by rw [hB.2] at h0; cases h0), fun k' hk' => ?_⟩⟩
    rw [hB.2] at hk'
    obtain rfl : k' = i := by simpa using hk'
    refine ⟨_, hi, rfl, stepE_alloc hz (Sub.skip (h := hs)) fun g => ?_⟩
    have H := anyS_perm (List.Perm.swap ⟨g', c', t'⟩ ⟨g, c, t⟩ L) (h g g')
    rw [Array.setIfInBounds_comm true true hij, Act.put_comm a (x := some d) (y := some e) _ _ (fun z h1 h2 => hde ((Option.some.inj h1).trans (Option.some.inj h2).symm))] at H
    exact H
end
/-! ### a region in any mixture, told with what is known: take k: number k is taken first (it answers the same wherever Lc's blocks are known); sole k: it is the only one that may come; two i j: allocs that may come in either order -/
inductive Mv where
  | take (k : Nat)
  | sole (k : Nat)
  | two (i j : Nat)
inductive St where
  | take (o : Oper)
  | sole (o : Oper)
  | two (o o' : Oper)
def Mv.cost : Mv → Nat
  | .two _ _ => 2
  | _ => 1
def costs (ms : List Mv) : Nat := (ms.map Mv.cost).sum
def Mv.pick (l : List Oper) : Mv → Option St
  | .take k => (l[k]?).map .take
  | .sole k => (l[k]?).map .sole
  | .two i j => match l[i]?, l[j]? with
    | some o, some o' => some (.two o o')
    | _, _ => none
def picksM (l : List Oper) (ms : List Mv) : List St := ms.filterMap (Mv.pick l)
def allocDst : Oper → Option Nat
  | ⟨some d, .alloc _, _, _, _, none⟩ => some d
  | _ => none
section
variable {P : Program} {ops : Array Oper} {md : Region.Mode} {Q : Exit → Act → World → Prop} {W : World} {Lc : List Ent}
def movesB (md : Region.Mode) (ops : Array Oper) : List Mv → Array Bool → Bool
  | [], ls => (Region.ready md ops ls).isEmpty
  | .take k :: r, ls => (Region.ready md ops ls).contains k && Region.free md ops ls k && (ops[k]?).isSome && movesB md ops r (ls.setIfInBounds k true)
  | .sole k :: r, ls => decide (Region.ready md ops ls = [k]) && (ops[k]?).isSome && movesB md ops r (ls.setIfInBounds k true)
  | .two i j :: r, ls => twoB md ops i j ls && decide (i ≠ j) && (ops[i]?).isSome && (ops[j]?).isSome && movesB md ops r ((ls.setIfInBounds i true).setIfInBounds j true)
def mixS (P : Program) (Q : Exit → Act → World → Prop) (W : World) (Lc : List Ent) : List St → Act → List Ent → Prop
  | [], a, L => ∀ u : KW W L, Q .normal a u.w
  | .take o :: r, a, L => o.guard = none ∧ ∃ v, Says P W Lc (execOp a.eval o) v ∧ mixS P Q W Lc r (a.put o.dst v) L
  | .sole o :: r, a, L => o.guard = none ∧ StepE P W Lc (execOp a.eval o) L fun v L' => mixS P Q W Lc r (a.put o.dst v) L'
  | .two o o' :: r, a, L => ∃ d t ty ps af e t' ty' ps' af' c c', o = ⟨some d, .alloc t, ty, ps, af, none⟩ ∧ o' = ⟨some e, .alloc t', ty', ps', af', none⟩ ∧ d ≠ e ∧ ZeroC P t c ∧ ZeroC P t' c' ∧
      ∀ g g', mixS P Q W Lc r ((a.put (some d) (.pointer (some ⟨g, 0, none⟩))).put (some e) (.pointer (some ⟨g', 0, none⟩))) (⟨g', c', t'⟩ :: ⟨g, c, t⟩ :: L)
theorem any_mix {l : List Oper} (hl : ops = l.toArray) (hsel : Region.noSelect ops = true) : ∀ (ms : List Mv) (ls : Array Bool) (a : Act) (L : List Ent), movesB md ops ms ls = true → Sub Lc L → mixS P Q W Lc (picksM l ms) a L → anyS P md ops Q W Lc (costs ms) ls a L
  | [], ls, a, L, hB, _, h => ⟨by simpa [movesB] using hB, h⟩
  | .take k :: ms, ls, a, L, hB, hs, h => by
    simp only [movesB, Bool.and_eq_true] at hB
    obtain ⟨o, h0⟩ := Option.isSome_iff_exists.1 hB.1.2
    have h0' : l[k]? = some o := by rw [hl] at h0; simpa using h0
    simp only [picksM, List.filterMap_cons, Mv.pick, h0', Option.map_some] at h
    obtain ⟨hg, v, hy, hR⟩ := h
    have A := any_first h0 hg (Region.noSelect_spec hsel) _ ls a L (Region.free_spec h0 hB.1.1.2) (by simpa using hB.1.1.1) hy hs (any_mix hl hsel ms _ _ L hB.2 hs hR)
    rwa [show costs (.take k :: ms) = costs ms + 1 by simp [costs, Mv.cost]; omega]
  | .sole k :: ms, ls, a, L, hB, hs, h => by
    simp only [movesB, Bool.and_eq_true, decide_eq_true_eq] at hB
    obtain ⟨o, h0⟩ := Option.isSome_iff_exists.1 hB.1.2
    have h0' : l[k]? = some o := by rw [hl] at h0; simpa using h0
    simp only [picksM, List.filterMap_cons, Mv.pick, h0', Option.map_some] at h
    rw [show costs (.sole k :: ms) = costs ms + 1 by simp [costs, Mv.cost]; omega]
    refine ⟨fun h1 => (by rw [hB.1.1] at h1; cases h1), fun i hi => ?_⟩
    rw [hB.1.1] at hi
    have hik : i = k := by simpa using hi
    subst hik
    refine ⟨o, h0, h.1, fun u => ?_⟩
    have hE := h.2 u
    have key : ∀ v L', Sub Lc L' → mixS P Q W Lc (picksM l ms) (a.put o.dst v) L' → anyS P md ops Q W Lc (costs ms) (ls.setIfInBounds i true) (a.put o.dst v) L' := fun v L' hs' h' => any_mix hl hsel ms _ _ L' hB.2 hs' h'
    revert hE
    generalize (execOp a.eval o).run P u.w = r
    intro hE
    cases r with
    | ok n w =>
      cases n with
      | value v' => obtain ⟨L', e1, e2, e3⟩ := hE; exact ⟨L', e1, e2, key _ _ e1 e3⟩
      | skip => obtain ⟨L', e1, e2, e3⟩ := hE; exact ⟨L', e1, e2, key _ _ e1 e3⟩
      | enter fn args => exact Calls.mono hE fun e w' ⟨v', L', e0, e1, e2, e3⟩ => ⟨v', L', e0, e1, e2, key _ _ e1 e3⟩
      | _ => exact hE.elim
    | _ => exact hE.elim
  | .two i j :: ms, ls, a, L, hB, hs, h => by
    simp only [movesB, Bool.and_eq_true, decide_eq_true_eq] at hB
    obtain ⟨o, h0⟩ := Option.isSome_iff_exists.1 hB.1.1.2
    obtain ⟨o', h1⟩ := Option.isSome_iff_exists.1 hB.1.2
    have h0' : l[i]? = some o := by rw [hl] at h0; simpa using h0
    have h1' : l[j]? = some o' := by rw [hl] at h1; simpa using h1
    simp only [picksM, List.filterMap_cons, Mv.pick, h0', h1'] at h
    obtain ⟨d, t, ty, ps, af, e, t', ty', ps', af', c, c', rfl, rfl, hde, hz, hz', hR⟩ := h
    rw [show costs (.two i j :: ms) = costs ms + 2 by simp [costs, Mv.cost]; omega]
    exact any_allocs h0 h1 hde hB.1.1.1.2 hB.1.1.1.1 hs hz hz' fun g g' => any_mix hl hsel ms _ _ _ hB.2 (Sub.skip (h := Sub.skip (h := hs))) (hR g g')
theorem region_mixS {id : Nat} {l : List Oper} {a : Act} {L : List Ent} {u : KW W L} (ms : List Mv) (Lc : List Ent) (hs : Sub Lc L) (hm : P.follows .mixedOrders = true) (hB : (Region.noSelect l.toArray && decide (costs ms = l.length) && movesB .any l.toArray ms (Array.replicate l.length false)) = true)
    (h : mixS P Q W Lc (picksM l ms) a L) : (Code.region id l.toArray true).wp P Q a u.w := by
  simp only [Bool.and_eq_true, decide_eq_true_eq] at hB
  refine wp_region_any hm ?_
  have A := any_mix (md := .any) (Q := Q) rfl hB.1.1 ms _ a L hB.2 hs h
  rw [hB.1.2] at A
  have e : l.toArray.size = l.length := by simp
  rw [e]
  exact any_sound _ _ _ L u.drew A
end
section
variable {P : Program} {Q : Exit → Act → World → Prop} {r : List St} {a : Act} {W : World} {L L' Lc : List Ent} {d : Tmp} {t ty : TypeId} {ps : String} {af : Array Edge} {x y : Operand}
theorem sm_nil (h : ∀ u : KW W L, Q .normal a u.w) : mixS P Q W Lc [] a L := h
theorem sm_value {op : Op} {d : Option Tmp} {v : Value} (hv : ∀ w, (execOp a.eval ⟨d, op, ty, ps, af, none⟩).run P w = .ok (.value v) w) (h : mixS P Q W Lc r (a.put d v) L) : mixS P Q W Lc (.take ⟨d, op, ty, ps, af, none⟩ :: r) a L :=
  ⟨rfl, v, fun L hL u => by rw [hv]; exact ⟨L, hL, ⟨u, rfl⟩, rfl, rfl⟩, h⟩
theorem sm_load {g o : Nat} {c c' : Array Value} {t' : TypeId} (hx : a.eval x = .pointer (some ⟨g, o, none⟩)) (hp : Has Lc g c t') (hq : Part P t c o c') (h : mixS P Q W Lc r (a.put (some d) (.agg c')) L) : mixS P Q W Lc (.take ⟨some d, .load t x, ty, ps, af, none⟩ :: r) a L := by
  refine ⟨rfl, .agg c', fun L hL u => ?_, h⟩
  have hp' : Has L g c t' := ⟨hL.out.subset hp.out⟩
  unfold execOp
  simp only [hx, Sem.run_bind, run_loadAt_part u hp' hq, Result.andThen_ok, Sem.run_pure]
  exact ⟨L, hL, ⟨u, rfl⟩, rfl, rfl⟩
theorem sm_call {op : Op} {d : Option Tmp} {f : FuncId} {args : Array Value} {v : Value} (he : ∀ w, (execOp a.eval ⟨d, op, ty, ps, af, none⟩).run P w = .ok (.enter f args) w) (hc : ∀ L, ∀ u : KW W L, Calls P f args u.w (Ret v u.w)) (h : mixS P Q W Lc r (a.put d v) L) : mixS P Q W Lc (.take ⟨d, op, ty, ps, af, none⟩ :: r) a L := by
  refine ⟨rfl, v, fun L hL u => ?_, h⟩
  rw [he]
  refine (hc _ u).mono fun e w' ⟨h1, hb⟩ => ?_
  obtain ⟨u', hu'⟩ := u.go hb
  exact ⟨v, L, h1, hL, ⟨u', hu'⟩, rfl, rfl⟩
theorem so_value {op : Op} {d : Option Tmp} {v : Value} (hs : Sub Lc L) (hv : ∀ w, (execOp a.eval ⟨d, op, ty, ps, af, none⟩).run P w = .ok (.value v) w) (h : mixS P Q W Lc r (a.put d v) L) : mixS P Q W Lc (.sole ⟨d, op, ty, ps, af, none⟩ :: r) a L :=
  ⟨rfl, fun u => by rw [hv]; exact ⟨L, hs, ⟨u, rfl⟩, h⟩⟩
theorem so_load {g o : Nat} {c c' : Array Value} {t' : TypeId} (hs : Sub Lc L) (hx : a.eval x = .pointer (some ⟨g, o, none⟩)) (hp : Has L g c t') (hq : Part P t c o c') (h : mixS P Q W Lc r (a.put (some d) (.agg c')) L) : mixS P Q W Lc (.sole ⟨some d, .load t x, ty, ps, af, none⟩ :: r) a L := by
  refine ⟨rfl, fun u => ?_⟩
  unfold execOp
  simp only [hx, Sem.run_bind, run_loadAt_part u hp hq, Result.andThen_ok, Sem.run_pure]
  exact ⟨L, hs, ⟨u, rfl⟩, h⟩
theorem so_store {g o : Nat} {c c' c'' : Array Value} {t' : TypeId} (hx : a.eval x = .pointer (some ⟨g, o, none⟩)) (hy : a.eval y = .agg c') (hp : Has L g c t') (hq : PutP P t c o c' c'') (hL : PutAll L g c'' c L') (hs : Sub Lc L')
    (h : mixS P Q W Lc r a L') : mixS P Q W Lc (.sole ⟨none, .store t x y, ty, ps, af, none⟩ :: r) a L := by
  refine ⟨rfl, fun u => ?_⟩
  obtain ⟨u', hu'⟩ := ex_part u hp hq hL
  unfold execOp
  simp only [hx, hy, Instr.storeAt, Instr.sureAddr, Sem.run_bind, Sem.run_pure, Result.andThen_ok, hu']
  exact ⟨L', hs, ⟨u', rfl⟩, h⟩
theorem so_alloc {c : Array Value} (hz : ZeroC P t c) (hs : Sub Lc L) (h : ∀ g, mixS P Q W Lc r (a.put (some d) (.pointer (some ⟨g, 0, none⟩))) (⟨g, c, t⟩ :: L)) : mixS P Q W Lc (.sole ⟨some d, .alloc t, ty, ps, af, none⟩ :: r) a L := by
  refine ⟨rfl, fun u => ?_⟩
  obtain ⟨i, hi, hz'⟩ := Option.map_eq_some_iff.1 hz.out
  obtain ⟨v, hv, rfl⟩ := Option.map_eq_some_iff.1 hz'
  have hr : (Instr.alloc t true (.tuple #[])).run P u.w = .ok (.pointer (some ⟨u.w.heap.size, 0, none⟩)) (u.alloc v.cells t).w := by
    simp [Instr.alloc, zeroValue, typeInfo, hi, hv, newVar, newRow, KW.alloc, go_sem]
  unfold execOp
  simp only [Sem.run_bind, hr, Result.andThen_ok, Sem.run_pure]
  exact ⟨_, Sub.skip (h := hs), ⟨u.alloc v.cells t, rfl⟩, h _⟩
theorem so_two {d e : Nat} {t t' ty ty' : TypeId} {ps ps' : String} {af af' : Array Edge} {c c' : Array Value} (hde : d ≠ e) (hz : ZeroC P t c) (hz' : ZeroC P t' c')
    (h : ∀ g g', mixS P Q W Lc r ((a.put (some d) (.pointer (some ⟨g, 0, none⟩))).put (some e) (.pointer (some ⟨g', 0, none⟩))) (⟨g', c', t'⟩ :: ⟨g, c, t⟩ :: L)) : mixS P Q W Lc (.two ⟨some d, .alloc t, ty, ps, af, none⟩ ⟨some e, .alloc t', ty', ps', af', none⟩ :: r) a L :=
  ⟨d, t, ty, ps, af, e, t', ty', ps', af', c, c', rfl, rfl, hde, hz, hz', h⟩
theorem so_call {op : Op} {d : Option Tmp} {f : FuncId} {args : Array Value} {v : Value} (hs : Sub Lc L) (he : ∀ w, (execOp a.eval ⟨d, op, ty, ps, af, none⟩).run P w = .ok (.enter f args) w) (hc : ∀ u : KW W L, Calls P f args u.w (Ret v u.w)) (h : mixS P Q W Lc r (a.put d v) L) : mixS P Q W Lc (.sole ⟨d, op, ty, ps, af, none⟩ :: r) a L := by
  refine ⟨rfl, fun u => ?_⟩
  rw [he]
  refine (hc u).mono fun e w' ⟨h1, hb⟩ => ?_
  obtain ⟨u', hu'⟩ := u.go hb
  exact ⟨v, L, h1, hs, ⟨u', hu'⟩, h⟩
end
/-! ### a chain of calls beside which one alloc may come at any place: ms1 the chain, i the alloc, ms2 what waits for it -/
section
variable {P : Program} {ops : Array Oper} {md : Region.Mode} {Q : Exit → Act → World → Prop} {S : World → Prop} {W : World} {L Lc : List Ent}
def floatB (md : Region.Mode) (ops : Array Oper) (i : Nat) (ms2 : List (Bool × Nat)) : List (Bool × Nat) → Array Bool → Bool
  | [], ls => decide (Region.ready md ops ls = [i]) && (ops[i]?).isSome && mixB md ops ms2 (ls.setIfInBounds i true)
  | (true, k) :: r, ls => (Region.ready md ops ls).contains k && Region.free md ops ls k && (ops[k]?).isSome && floatB md ops i ms2 r (ls.setIfInBounds k true)
  | (false, k) :: r, ls => (Region.ready md ops ls).all (fun j => j == i || j == k) && !(Region.ready md ops ls).isEmpty && (ops[k]?).isSome && (ops[i]?).isSome && floatB md ops i ms2 r (ls.setIfInBounds k true) && mixB md ops ((false, k) :: r ++ ms2) (ls.setIfInBounds i true)
def floatT (P : Program) (ops : Array Oper) (S : World → Prop) (Q : Exit → Act → World → Prop) (oi : Oper) (ms2 : List (Bool × Oper)) : List (Bool × Oper) → Act → World → Prop
  | [], a, w => Region.wanted oi (yielded ops a.tmps) = true ∧ oi.wp P a w (fun a' w' => S w' ∧ mixT P ops S Q ms2 a' w') Q
  | (true, o) :: r, a, w => ∃ v, YieldsIf P ops S o v a ∧ floatT P ops S Q oi ms2 r (a.put o.dst v) w
  | (false, o) :: r, a, w => (Region.wanted o (yielded ops a.tmps) = true ∧ o.wp P a w (fun a' w' => S w' ∧ floatT P ops S Q oi ms2 r a' w') Q) ∧
      (Region.wanted oi (yielded ops a.tmps) = true ∧ oi.wp P a w (fun a' w' => S w' ∧ mixT P ops S Q ((false, o) :: r ++ ms2) a' w') Q)
theorem picks_append (l : List Oper) (m1 m2 : List (Bool × Nat)) : picks l (m1 ++ m2) = picks l m1 ++ picks l m2 := by simp [picks]
theorem held_float {l : List Oper} {i : Nat} {oi : Oper} {ms2 : List (Bool × Nat)} (hl : ops = l.toArray) (hsel : Region.noSelect ops = true) (hQ : ∀ c a w d v, Q (.panic c) (Act.put a d v) w → Q (.panic c) a w) (hoi : ops[i]? = some oi) :
    ∀ (ms : List (Bool × Nat)) (ls : Array Bool) (a : Act) (w : World), floatB md ops i ms2 ms ls = true → S w → floatT P ops S Q oi (picks l ms2) (picks l ms) a w → wpAnyH P md ops Q S (ms.length + ms2.length + 1) ls a w
  | [], ls, a, w, hB, hS, h => by
    simp only [floatB, Bool.and_eq_true, decide_eq_true_eq] at hB
    rw [List.length_nil, Nat.zero_add]
    refine ⟨fun h1 => (by rw [hB.1.1] at h1; cases h1), fun j hj => ?_⟩
    rw [hB.1.1] at hj
    have hji : j = i := by simpa using hj
    subst hji
    have hw : wpOp P ops Q j (fun a' w' => S w' ∧ mixT P ops S Q (picks l ms2) a' w') a w := by
      unfold wpOp
      simp only [hoi]
      rw [if_pos h.1]
      exact Or.inl h.2
    exact wpOp_mono (fun a' w' h' => ⟨h'.1, held_mix hl hsel hQ ms2 _ a' w' hB.2 h'.1 h'.2⟩) hw
  | (true, k) :: ms, ls, a, w, hB, hS, h => by
    simp only [floatB, Bool.and_eq_true] at hB
    obtain ⟨o, h0⟩ := Option.isSome_iff_exists.1 hB.1.2
    have h0' : l[k]? = some o := by rw [hl] at h0; simpa using h0
    simp only [picks, List.filterMap_cons, h0', Option.map_some] at h
    obtain ⟨v, hy, hR⟩ := h
    rw [List.length_cons, show ms.length + 1 + ms2.length + 1 = (ms.length + ms2.length + 1) + 1 by omega]
    exact wpAnyH_take h0 hsel hB.1.1.2 hB.1.1.1 (fun c a w h => hQ c a w _ _ h) hy hS (held_float hl hsel hQ hoi ms _ _ w hB.2 hS hR)
  | (false, k) :: ms, ls, a, w, hB, hS, h => by
    simp only [floatB, Bool.and_eq_true] at hB
    obtain ⟨o, h0⟩ := Option.isSome_iff_exists.1 hB.1.1.1.2
    have h0' : l[k]? = some o := by rw [hl] at h0; simpa using h0
    simp only [picks, List.filterMap_cons, h0', Option.map_some] at h
    rw [List.length_cons, show ms.length + 1 + ms2.length + 1 = (ms.length + ms2.length + 1) + 1 by omega]
    refine ⟨fun h1 => ?_, fun j hj => ?_⟩
    · have := hB.1.1.1.1.2
      rw [h1] at this
      simp at this
    · have hall := List.all_eq_true.1 hB.1.1.1.1.1 j hj
      by_cases hji : j = i
      · subst hji
        have hw : wpOp P ops Q j (fun a' w' => S w' ∧ mixT P ops S Q (picks l ((false, k) :: ms ++ ms2)) a' w') a w := by
          unfold wpOp
          simp only [hoi]
          rw [if_pos h.2.1, picks_append]
          simp only [picks, List.filterMap_cons, h0', Option.map_some]
          exact Or.inl h.2.2
        refine wpOp_mono (fun a' w' h' => ⟨h'.1, ?_⟩) hw
        have := held_mix hl hsel hQ _ _ a' w' hB.2 h'.1 h'.2
        rw [List.cons_append, List.length_cons, List.length_append] at this
        exact this
      · have hjk : j = k := by simpa [hji] using hall
        subst hjk
        have hw : wpOp P ops Q j (fun a' w' => S w' ∧ floatT P ops S Q oi (picks l ms2) (picks l ms) a' w') a w := by
          unfold wpOp
          simp only [h0]
          rw [if_pos h.1.1]
          exact Or.inl h.1.2
        exact wpOp_mono (fun a' w' h' => ⟨h'.1, held_float hl hsel hQ hoi ms _ a' w' hB.1.2 h'.1 h'.2⟩) hw
theorem region_float {id : Nat} {l : List Oper} {a : Act} {u : KW W L} (ms1 : List (Bool × Nat)) (i : Nat) (ms2 : List (Bool × Nat)) (oi : Oper) (Lc : List Ent) (hs : Sub Lc L) (hm : P.follows .mixedOrders = true) (hoi : l[i]? = some oi)
    (hB : (Region.noSelect l.toArray && decide (ms1.length + ms2.length + 1 = l.length) && floatB .any l.toArray i ms2 ms1 (Array.replicate l.length false)) = true) (hQ : ∀ c a w d v, Q (.panic c) (Act.put a d v) w → Q (.panic c) a w)
    (h : ∀ u' : KW W L, Below u.w.heap.size u.w u'.w → floatT P l.toArray (Known W Lc) Q oi (picks l ms2) (picks l ms1) a u'.w) : (Code.region id l.toArray true).wp P Q a u.w := by
  simp only [Bool.and_eq_true, decide_eq_true_eq] at hB
  refine wp_region_held (S := Known W Lc) hm ?_
  have A := held_float (md := .any) (Q := Q) rfl hB.1.1 hQ (show l.toArray[i]? = some oi by simpa using hoi) ms1 _ a u.drew.w hB.2 (KW.weak (h := hs) u.drew) (h u.drew (Below.drew (Below.refl _ _)))
  rw [hB.1.2] at A
  have e : l.toArray.size = l.length := by simp
  rw [e]
  exact A
end
section
variable {P : Program} {ops : Array Oper} {Q : Exit → Act → World → Prop} {a : Act} {S : World → Prop} {w : World} {W : World} {L Lc : List Ent} {u : KW W L} {d : Tmp} {t ty : TypeId} {ps : String} {af : Array Edge} {x : Operand} {oi : Oper} {m2 mr : List (Bool × Oper)} {gd : Option (Nat × Bool)}
theorem wp_enters {op : Op} {d : Option Tmp} {f : FuncId} {args : Array Value} {K : Act → World → Prop} (he : (execOp a.eval ⟨d, op, ty, ps, af, gd⟩).run P w = .ok (.enter f args) w)
    (h : Calls P f args w fun e w' => ∃ v, e = .returned v ∧ S w' ∧ K (a.put d v) w') : (⟨d, op, ty, ps, af, gd⟩ : Oper).wp P a w (fun a' w' => S w' ∧ K a' w') Q := by
  unfold Oper.wp
  rw [he]
  refine Calls.mono h fun e w' ⟨v, h0, h1, h2⟩ => ?_
  subst h0
  exact ⟨h1, h2⟩
theorem wp_allocs {c : Array Value} {K : Act → World → Prop} (hz : ZeroC P t c) (hs : Sub Lc L) (h : ∀ (g : Nat) (u' : KW W (⟨g, c, t⟩ :: L)), Below u.w.heap.size u.w u'.w → K (a.put (some d) (.pointer (some ⟨g, 0, none⟩))) u'.w) :
    (⟨some d, .alloc t, ty, ps, af, gd⟩ : Oper).wp P a u.w (fun a' w' => Known W Lc w' ∧ K a' w') Q := by
  obtain ⟨i, hi, hz'⟩ := Option.map_eq_some_iff.1 hz.out
  obtain ⟨v, hv, rfl⟩ := Option.map_eq_some_iff.1 hz'
  have hr : (Instr.alloc t true (.tuple #[])).run P u.w = .ok (.pointer (some ⟨u.w.heap.size, 0, none⟩)) (u.alloc v.cells t).w := by
    simp [Instr.alloc, zeroValue, typeInfo, hi, hv, newVar, newRow, KW.alloc, go_sem]
  unfold Oper.wp execOp
  simp only [Sem.run_bind, hr, Result.andThen_ok, Sem.run_pure]
  exact ⟨KW.weak (h := Sub.skip (h := hs)) (u.alloc v.cells t), h _ _ ((Below.refl _ _).alloc (Nat.le_refl _) _)⟩
theorem fl_nil (hw : Region.wanted oi (yielded ops a.tmps) = true) (h : oi.wp P a w (fun a' w' => S w' ∧ mixT P ops S Q m2 a' w') Q) : floatT P ops S Q oi m2 [] a w := ⟨hw, h⟩
theorem fl_take {o : Oper} {v : Value} (hv : YieldsIf P ops S o v a) (h : floatT P ops S Q oi m2 mr (a.put o.dst v) w) : floatT P ops S Q oi m2 ((true, o) :: mr) a w := ⟨v, hv, h⟩
theorem fl_value {op : Op} {d : Option Tmp} {v : Value} (hw : Region.wanted ⟨d, op, ty, ps, af, gd⟩ (yielded ops a.tmps) = true) (hv : ∀ w, (execOp a.eval ⟨d, op, ty, ps, af, gd⟩).run P w = .ok (.value v) w) (h : floatT P ops S Q oi m2 mr (a.put d v) w) : floatT P ops S Q oi m2 ((true, ⟨d, op, ty, ps, af, gd⟩) :: mr) a w :=
  ⟨v, Or.inl ⟨hw, fun w _ => hv w⟩, h⟩
theorem fl_load {g o : Nat} {c c' : Array Value} {t' : TypeId} (hw : Region.wanted ⟨some d, .load t x, ty, ps, af, gd⟩ (yielded ops a.tmps) = true) (hx : a.eval x = .pointer (some ⟨g, o, none⟩)) (hp : Has Lc g c t') (hq : Part P t c o c')
    (h : floatT P ops (Known W Lc) Q oi m2 mr (a.put (some d) (.agg c')) w) : floatT P ops (Known W Lc) Q oi m2 ((true, ⟨some d, .load t x, ty, ps, af, gd⟩) :: mr) a w := by
  refine ⟨.agg c', Or.inl ⟨hw, ?_⟩, h⟩
  rintro w ⟨u, rfl⟩
  unfold execOp
  simp only [hx, Sem.run_bind, run_loadAt_part u hp hq, Result.andThen_ok, Sem.run_pure]
theorem fl_both {o : Oper} (hw : Region.wanted o (yielded ops a.tmps) = true) (hw' : Region.wanted oi (yielded ops a.tmps) = true) (he : oi.wp P a w (fun a' w' => S w' ∧ mixT P ops S Q ((false, o) :: mr ++ m2) a' w') Q) (h : o.wp P a w (fun a' w' => S w' ∧ floatT P ops S Q oi m2 mr a' w') Q) : floatT P ops S Q oi m2 ((false, o) :: mr) a w :=
  ⟨⟨hw, h⟩, hw', he⟩
theorem mx_only {o : Oper} (hw : Region.wanted o (yielded ops a.tmps) = true) (h : o.wp P a w (fun a' w' => S w' ∧ mixT P ops S Q mr a' w') Q) : mixT P ops S Q ((false, o) :: mr) a w := ⟨hw, h⟩
end
/-! results that lie in variables -/
section
variable {P : Program} {fn : Func} {R : Ending → World → Prop} {tmps : Array Value} {W : World} {L : List Ent} {u : KW W L} {ty : TypeId} {p q : Tmp} {g : Nat} {c : Array Value} {t : TypeId}
theorem bd_cell (hf : fn.results = #[.cell p ty]) (hp : tmps.getD p undef = .pointer (some ⟨g, 0, none⟩)) (h : Has L g c t) (hr : Cel P ty c) (hR : R (.returned (.agg c)) u.w) :
    bodyPost P fn R .ret ⟨tmps, []⟩ u.w := body_cell hf hp hr.row rfl hR
theorem bd_cell_tmp {v : Value} (hf : fn.results = #[.cell p ty, .tmp q]) (hp : tmps.getD p undef = .pointer (some ⟨g, 0, none⟩)) (hq : tmps.getD q undef = v) (h : Has L g c t) (hr : Cel P ty c)
    (hR : R (.returned (.tuple #[.agg c, v])) u.w) : bodyPost P fn R .ret ⟨tmps, []⟩ u.w := body_cell_tmp hf hp hq hr.row rfl hR
end
end KM
