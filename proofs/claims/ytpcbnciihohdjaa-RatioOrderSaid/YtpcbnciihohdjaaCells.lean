/-
  Structs by their cells, for any program: parts by extraction, equality field by field.
-/
import Derived.Test.YtpcbnciihohdjaaLow4
namespace KM
open Go Go.RowKit
theorem Part.of {P : Program} {t : TypeId} {c : Array Value} {o : Nat} {c' : Array Value} (hr : Row P t c'.size) (he : c.extract o (o + c'.size) = c') : Part P t c o c' :=
  ⟨hr, fun j hj => by
    have h := congrArg (·[j]?) he
    simp only [Array.getElem?_extract] at h
    by_cases hc : j < min (o + c'.size) c.size - o
    · rw [if_pos hc] at h; exact h
    · rw [if_neg hc] at h
      have := h.symm
      rw [Array.getElem?_eq_none_iff] at this
      omega⟩
theorem eqFields_cons {P : Program} {w : World} {d : Nat} {c c' : Array Value} {f : Field} {fs : List Field} {v v' : Value} {b : Bool} (hf : f.name ≠ "_")
    (h1 : (part f.type c f.offset).run P w = .ok v w) (h2 : (part f.type c' f.offset).run P w = .ok v' w) (he : (Op.equalIn d f.type v v').run P w = .ok b w) :
    (Op.eqFields d c c' (f :: fs)).run P w = if b = true then (Op.eqFields d c c' fs).run P w else .ok false w := by
  simp only [Op.eqFields, if_pos hf, Sem.run_bind, h1, h2, he, Result.andThen_ok]
  cases b <;> rfl
def allB : List Bool → Bool
  | [] => true
  | [b] => b
  | b :: r => b && allB r
theorem allB_cons (b : Bool) (r : List Bool) : allB (b :: r) = (b && allB r) := by
  cases r with
  | nil => simp [allB]
  | cons c r => rfl
/-- the fields' parts compare as told -/
def EqAll (P : Program) (w : World) (d : Nat) (c c' : Array Value) : List (TypeId × Nat) → List Bool → Prop
  | [], [] => True
  | (t, o) :: r, b :: bs => (∃ v v', (part t c o).run P w = .ok v w ∧ (part t c' o).run P w = .ok v' w ∧ (Op.equalIn d t v v').run P w = .ok b w) ∧ EqAll P w d c c' r bs
  | _, _ => False
theorem eqFields_all {P : Program} {w : World} {d : Nat} {c c' : Array Value} : ∀ (fs : List Field) (spec : List (TypeId × Nat)) (bs : List Bool), fs.map (fun f => (decide (f.name ≠ "_"), f.type, f.offset)) = spec.map (fun s => (true, s.1, s.2)) →
    EqAll P w d c c' spec bs → (Op.eqFields d c c' fs).run P w = .ok (allB bs) w
  | [], [], [], _, _ => by simp [Op.eqFields, allB]
  | [], [], _ :: _, _, h => by simp [EqAll] at h
  | [], _ :: _, _, h, _ => by simp at h
  | _ :: _, [], _, h, _ => by simp at h
  | _ :: _, _ :: _, [], _, h => by simp [EqAll] at h
  | f :: fs, (t, o) :: spec, b :: bs, h, ⟨⟨v, v', h1, h2, he⟩, hr⟩ => by
    simp only [List.map_cons, List.cons.injEq, Prod.mk.injEq, decide_eq_true_eq] at h
    obtain ⟨⟨hn, ht, ho⟩, hs⟩ := h
    subst ht ho
    rw [eqFields_cons hn h1 h2 he, eqFields_all fs spec bs hs hr, allB_cons]
    cases b <;> rfl
theorem eqStruct {P : Program} {t : TypeId} {w : World} {d : Nat} {c c' : Array Value} (spec : List (TypeId × Nat)) (bs : List Bool) (hS : P.underlying t = some (.struct (P.fieldsOf t))) (hp : P.stoodInHeld t = false)
    (hF : (P.fieldsOf t).toList.map (fun f => (decide (f.name ≠ "_"), f.type, f.offset)) = spec.map (fun s => (true, s.1, s.2))) (h : EqAll P w d c c' spec bs) :
    (Op.equalIn (d + 1) t (.agg c) (.agg c')).run P w = .ok (allB bs) w := by
  rw [run_equalIn_struct w d t c c' hS hp]
  exact eqFields_all _ spec bs hF h
theorem at_depth {P : Nat → Prop} {k n : Nat} (h : k = n) (hn : P n) : P k := h ▸ hn
theorem part_row {P : Program} {t : TypeId} {c c' : Array Value} {o : Nat} (hr : Row P t c'.size) (he : c.extract o (o + c'.size) = c') (w : World) : (part t c o).run P w = .ok (.agg c') w := by
  rw [run_part_row hr, he]
/-- a field of a struct that is a value -/
theorem run_field {P : Program} {t tf : TypeId} {c : Array Value} {k o : Nat} {v : Value} (hu : P.underlying t = some (.struct (P.fieldsOf t))) (h0 : (P.fieldsOf t)[k]?.map (fun f => (f.type, f.offset)) = some (tf, o))
    (hv : ∀ w, (part tf c o).run P w = .ok v w) (w : World) : (Instr.field t (.agg c) k).run P w = .ok v w := by
  obtain ⟨f, hf, hf'⟩ := Option.map_eq_some_iff.1 h0
  obtain ⟨e1, e2⟩ := Prod.mk.inj hf'
  simp only [Instr.field, Sem.run_bind, run_underlying hu, Result.andThen_ok, hf, e1, e2]
  simp only [asAgg, Sem.run_pure, Result.andThen_ok, hv]
section
variable {P : Program} {ops : Array Oper} {rest : List Oper} {a : Act} {W : World} {L : List Ent} {TQ : Act → Prop} {dq : Option Tmp} {ty : TypeId} {ps : String} {af : Array Edge} {gd : Option (Nat × Bool)}
/-- 'wpQuiet', closed to unfolding: 'apply' looks at its goal's weak head form -/
structure QQ (P : Program) (ops : Array Oper) (C : World → Prop) (TQ : Act → Prop) (rest : List Oper) (a : Act) : Prop where
  out : wpQuiet P ops C TQ rest a
variable {o : Oper} {C : World → Prop} {op : Op} {d : Tmp} {t : TypeId} {x : Operand}
theorem qq_skip (hw : Region.wanted o (yielded ops a.tmps) = false) (h : QQ P ops C TQ rest (a.put o.dst undef)) : QQ P ops C TQ (o :: rest) a := ⟨qt_skip hw h.out⟩
theorem qq_value {v : Value} (hv : ∀ w, (execOp a.eval ⟨dq, op, ty, ps, af, gd⟩).run P w = .ok (.value v) w) (hw : Region.wanted ⟨dq, op, ty, ps, af, gd⟩ (yielded ops a.tmps) = true) (h : QQ P ops C TQ rest (a.put dq v)) : QQ P ops C TQ (⟨dq, op, ty, ps, af, gd⟩ :: rest) a := ⟨qt_value hw hv h.out⟩
theorem qq_load {g o : Nat} {c c' : Array Value} {t' : TypeId} (hx : a.eval x = .pointer (some ⟨g, o, none⟩)) (hp : Has L g c t') (hq : Part P t c o c') (hw : Region.wanted ⟨some d, .load t x, ty, ps, af, gd⟩ (yielded ops a.tmps) = true)
    (h : QQ P ops (fun w' => ∃ u : KW W L, w' = u.w) TQ rest (a.put (some d) (.agg c'))) : QQ P ops (fun w' => ∃ u : KW W L, w' = u.w) TQ (⟨some d, .load t x, ty, ps, af, gd⟩ :: rest) a := ⟨qt_load hw hx hp hq h.out⟩
theorem qq_callf {f : FuncId} {xs : Array Operand} {ts : Array TypeId} {args : Array Value} {v : Value} (he : ∀ w, (execOp a.eval ⟨dq, .call ⟨.value (.func f), xs, ts⟩, ty, ps, af, gd⟩).run P w = .ok (.enter f args) w) (hc : ∀ u : KW W L, Calls P f args u.w (Ret v u.w)) (hw : Region.wanted ⟨dq, .call ⟨.value (.func f), xs, ts⟩, ty, ps, af, gd⟩ (yielded ops a.tmps) = true)
    (h : QQ P ops (fun w' => ∃ u : KW W L, w' = u.w) TQ rest (a.put dq v)) : QQ P ops (fun w' => ∃ u : KW W L, w' = u.w) TQ (⟨dq, .call ⟨.value (.func f), xs, ts⟩, ty, ps, af, gd⟩ :: rest) a := ⟨qt_call hw he hc h.out⟩
theorem qq_nil (h : TQ a) : QQ P ops C TQ [] a := ⟨wpQuiet_nil h⟩
end
/-- a type whose variables are one cell -/
class Scal (P : Program) (t : TypeId) : Prop where
  out : (match P.underlying t with | some (.struct _) => false | some (.array _ _) => false | some _ => true | none => false) = true
/-- the cell of c at o, a variable of type t, is v -/
class CellV (P : Program) (t : TypeId) (c : Array Value) (o : Nat) (v : outParam Value) : Prop where
  scal : Scal P t
  at_ : c[o]? = some v
instance CellV.one {P : Program} {t : TypeId} {v : Value} [h : Scal P t] : CellV P t #[v] 0 v := ⟨h, rfl⟩
theorem run_loadAt_cell {P : Program} {W : World} {L : List Ent} (u : KW W L) {g o : Nat} {c : Array Value} {t t' : TypeId} {v : Value} (hp : Has L g c t') (hq : CellV P t c o v) :
    (Instr.loadAt t (.pointer (some ⟨g, o, none⟩))).run P u.w = .ok v u.w := by
  have hc : u.w.cell? ⟨g, o, none⟩ = some v := by rw [u.cell? (h := hp), hq.at_]
  have h := hq.scal.out
  simp only [Instr.loadAt, Instr.sureAddr, Sem.run_bind, Sem.run_pure, Result.andThen_ok]
  unfold loadVar isAgg
  cases hu : P.underlying t with
  | none => rw [hu] at h; cases h
  | some d =>
    rw [hu] at h
    simp only [Sem.run_bind, run_underlying hu, Result.andThen_ok]
    cases d <;> first | (cases h; done) | simp [hc]
section
variable {P : Program} {ops : Array Oper} {rest : List Oper} {a : Act} {W : World} {L Lc : List Ent} {TQ : Act → Prop} {ty : TypeId} {ps : String} {af : Array Edge} {gd : Option (Nat × Bool)} {d : Tmp} {t t' : TypeId} {x : Operand} {v : Value} {g o : Nat} {c : Array Value} {Q : Exit → Act → World → Prop} {r : List St}
theorem qq_cell (hx : a.eval x = .pointer (some ⟨g, o, none⟩)) (hp : Has L g c t') (hq : CellV P t c o v) (hw : Region.wanted ⟨some d, .load t x, ty, ps, af, gd⟩ (yielded ops a.tmps) = true)
    (h : QQ P ops (fun w' => ∃ u : KW W L, w' = u.w) TQ rest (a.put (some d) v)) : QQ P ops (fun w' => ∃ u : KW W L, w' = u.w) TQ (⟨some d, .load t x, ty, ps, af, gd⟩ :: rest) a :=
  ⟨qt_some hw (by
    rintro w ⟨u, rfl⟩
    unfold Oper.quietAt execOp
    simp only [hx, Sem.run_bind, run_loadAt_cell u hp hq, Result.andThen_ok, Sem.run_pure]
    exact ⟨rfl, rfl⟩) h.out⟩
end
/-- 'mixS', closed to unfolding -/
structure MM (P : Program) (Q : Exit → Act → World → Prop) (W : World) (Lc : List Ent) (ms : List St) (a : Act) (L : List Ent) : Prop where
  out : mixS P Q W Lc ms a L
section
variable {P : Program} {Q : Exit → Act → World → Prop} {r : List St} {a : Act} {W : World} {L L' Lc : List Ent} {d : Tmp} {dq : Option Tmp} {t ty : TypeId} {ps : String} {af : Array Edge} {x y : Operand} {op : Op} {v : Value}
  {f : FuncId} {xs : Array Operand} {ts : Array TypeId} {args : Array Value} {g o : Nat} {c c' c'' : Array Value} {t' : TypeId}
theorem mm_nil (h : ∀ u : KW W L, Q .normal a u.w) : MM P Q W Lc [] a L := ⟨sm_nil h⟩
theorem mm_value (hv : ∀ w, (execOp a.eval ⟨dq, op, ty, ps, af, none⟩).run P w = .ok (.value v) w) (h : MM P Q W Lc r (a.put dq v) L) : MM P Q W Lc (.take ⟨dq, op, ty, ps, af, none⟩ :: r) a L := ⟨sm_value hv h.out⟩
theorem mm_load (hx : a.eval x = .pointer (some ⟨g, o, none⟩)) (hp : Has Lc g c t') (hq : Part P t c o c') (h : MM P Q W Lc r (a.put (some d) (.agg c')) L) : MM P Q W Lc (.take ⟨some d, .load t x, ty, ps, af, none⟩ :: r) a L := ⟨sm_load hx hp hq h.out⟩
theorem mm_callf (he : ∀ w, (execOp a.eval ⟨dq, .call ⟨.value (.func f), xs, ts⟩, ty, ps, af, none⟩).run P w = .ok (.enter f args) w) (hc : ∀ L, ∀ u : KW W L, Calls P f args u.w (Ret v u.w)) (h : MM P Q W Lc r (a.put dq v) L) :
    MM P Q W Lc (.take ⟨dq, .call ⟨.value (.func f), xs, ts⟩, ty, ps, af, none⟩ :: r) a L := ⟨sm_call he hc h.out⟩
theorem mo_value (hs : Sub Lc L) (hv : ∀ w, (execOp a.eval ⟨dq, op, ty, ps, af, none⟩).run P w = .ok (.value v) w) (h : MM P Q W Lc r (a.put dq v) L) : MM P Q W Lc (.sole ⟨dq, op, ty, ps, af, none⟩ :: r) a L := ⟨so_value hs hv h.out⟩
theorem mo_load (hs : Sub Lc L) (hx : a.eval x = .pointer (some ⟨g, o, none⟩)) (hp : Has L g c t') (hq : Part P t c o c') (h : MM P Q W Lc r (a.put (some d) (.agg c')) L) : MM P Q W Lc (.sole ⟨some d, .load t x, ty, ps, af, none⟩ :: r) a L := ⟨so_load hs hx hp hq h.out⟩
theorem mo_store (hx : a.eval x = .pointer (some ⟨g, o, none⟩)) (hy : a.eval y = .agg c') (hp : Has L g c t') (hq : PutP P t c o c' c'') (hL : PutAll L g c'' c L') (hs : Sub Lc L') (h : MM P Q W Lc r a L') :
    MM P Q W Lc (.sole ⟨none, .store t x y, ty, ps, af, none⟩ :: r) a L := ⟨so_store hx hy hp hq hL hs h.out⟩
theorem mo_put (hx : a.eval x = .pointer (some ⟨g, o, none⟩)) (hy : a.eval y = v) (hp : Has L g c t') (hq : PutV P t c o v c') (hL : PutAll L g c' c L') (hs : Sub Lc L') (h : MM P Q W Lc r a L') :
    MM P Q W Lc (.sole ⟨none, .store t x y, ty, ps, af, none⟩ :: r) a L := by
  refine ⟨rfl, fun u => ?_⟩
  obtain ⟨u', hu'⟩ := KM.ex_put u hp hq hL
  unfold execOp
  simp only [hx, hy, Instr.storeAt, Instr.sureAddr, Sem.run_bind, Sem.run_pure, Result.andThen_ok, hu']
  exact ⟨L', hs, ⟨u', rfl⟩, h.out⟩
theorem mo_alloc (hz : ZeroC P t c) (hs : Sub Lc L) (h : ∀ g, MM P Q W Lc r (a.put (some d) (.pointer (some ⟨g, 0, none⟩))) (⟨g, c, t⟩ :: L)) : MM P Q W Lc (.sole ⟨some d, .alloc t, ty, ps, af, none⟩ :: r) a L := ⟨so_alloc hz hs fun g => (h g).out⟩
theorem mo_two {d e : Nat} {t t' ty ty' : TypeId} {ps ps' : String} {af af' : Array Edge} {c c' : Array Value} (hz : ZeroC P t c) (hz' : ZeroC P t' c') (hde : d ≠ e)
    (h : ∀ g g', MM P Q W Lc r ((a.put (some d) (.pointer (some ⟨g, 0, none⟩))).put (some e) (.pointer (some ⟨g', 0, none⟩))) (⟨g', c', t'⟩ :: ⟨g, c, t⟩ :: L)) : MM P Q W Lc (.two ⟨some d, .alloc t, ty, ps, af, none⟩ ⟨some e, .alloc t', ty', ps', af', none⟩ :: r) a L := ⟨so_two hde hz hz' fun g g' => (h g g').out⟩
theorem mo_callf (hs : Sub Lc L) (he : ∀ w, (execOp a.eval ⟨dq, .call ⟨.value (.func f), xs, ts⟩, ty, ps, af, none⟩).run P w = .ok (.enter f args) w) (hc : ∀ u : KW W L, Calls P f args u.w (Ret v u.w)) (h : MM P Q W Lc r (a.put dq v) L) :
    MM P Q W Lc (.sole ⟨dq, .call ⟨.value (.func f), xs, ts⟩, ty, ps, af, none⟩ :: r) a L := ⟨so_call hs he hc h.out⟩
theorem mm_cell (hx : a.eval x = .pointer (some ⟨g, o, none⟩)) (hp : Has Lc g c t') (hq : CellV P t c o v) (h : MM P Q W Lc r (a.put (some d) v) L) : MM P Q W Lc (.take ⟨some d, .load t x, ty, ps, af, none⟩ :: r) a L := by
  refine ⟨⟨rfl, v, fun L hL u => ?_, h.out⟩⟩
  have hp' : Has L g c t' := ⟨hL.out.subset hp.out⟩
  unfold execOp
  simp only [hx, Sem.run_bind, run_loadAt_cell u hp' hq, Result.andThen_ok, Sem.run_pure]
  exact ⟨L, hL, ⟨u, rfl⟩, rfl, rfl⟩
theorem mo_cell (hs : Sub Lc L) (hx : a.eval x = .pointer (some ⟨g, o, none⟩)) (hp : Has L g c t') (hq : CellV P t c o v) (h : MM P Q W Lc r (a.put (some d) v) L) : MM P Q W Lc (.sole ⟨some d, .load t x, ty, ps, af, none⟩ :: r) a L := by
  refine ⟨⟨rfl, fun u => ?_⟩⟩
  unfold execOp
  simp only [hx, Sem.run_bind, run_loadAt_cell u hp hq, Result.andThen_ok, Sem.run_pure]
  exact ⟨L, hs, ⟨u, rfl⟩, h.out⟩
end
end KM
theorem WideM.lit_B {n : Nat} (h : n < 18446744073709551616) : n < WideM.B := by rw [WideM.B_eq]; exact h
