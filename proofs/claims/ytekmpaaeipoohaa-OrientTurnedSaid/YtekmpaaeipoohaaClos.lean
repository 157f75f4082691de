/-
  Function values, for any program: a captured variable of one cell, a closure called in a region that draws its order.
-/
import Derived.Test.YtekmpaaeipoohaaBase
namespace KM
open Go Go.RowKit
section
variable {P : Program} {ops : Array Oper} {Q : Exit → Act → World → Prop} {rest : List Oper} {a : Act} {W : World} {L Lc : List Ent} {u : KW W L} {d : Tmp} {t ty : TypeId} {ps : String} {af : Array Edge} {x : Operand} {v : Value}
/-- a variable of one cell, laid with its value -/
theorem ls_box1 (hx : a.eval x = v) (hv : v.cells = #[v])
    (h : ∀ (g : Nat) (u' : KW W (⟨g, #[v], t⟩ :: L)), wpList P ops Q rest (a.put (some d) (.pointer (some ⟨g, 0, none⟩))) u'.w) :
    wpList P ops Q (⟨some d, .box t x, ty, ps, af, none⟩ :: rest) a u.w := by
  refine wpList_plain rfl fun K hK => ?_
  unfold Oper.wp execOp
  have hr : (Instr.box t (a.eval x)).run P u.w = .ok (.pointer (some ⟨u.w.heap.size, 0, none⟩)) (u.alloc #[v] t).w := by
    rw [hx]
    unfold Value.cells at hv
    simp [Instr.box, newVar, newRow, hv, KW.alloc, go_sem]
  simp only [Sem.run_bind, hr, Result.andThen_ok, Sem.run_pure]
  exact hK _ _ (h _ (u.alloc #[v] t))
end
section
variable {P : Program} {Q : Exit → Act → World → Prop} {r : List St} {a : Act} {W : World} {L Lc : List Ent} {dq : Option Tmp} {ty : TypeId} {ps : String} {af : Array Edge} {v : Value} {f : FuncId} {xs : Array Operand} {ts : Array TypeId} {args : Array Value} {x : Operand}
/-- a function value called, wherever the blocks of Lc are known -/
theorem mm_callv (he : ∀ w, (execOp a.eval ⟨dq, .call ⟨.value x, xs, ts⟩, ty, ps, af, none⟩).run P w = .ok (.enter f args) w) (hc : ∀ L, Sub Lc L → ∀ u : KW W L, Calls P f args u.w (Ret v u.w)) (h : MM P Q W Lc r (a.put dq v) L) :
    MM P Q W Lc (.take ⟨dq, .call ⟨.value x, xs, ts⟩, ty, ps, af, none⟩ :: r) a L := by
  refine ⟨rfl, v, fun L hL u => ?_, h.out⟩
  rw [he]
  refine (hc _ hL u).mono fun e w' ⟨h1, hb⟩ => ?_
  obtain ⟨u', hu'⟩ := u.go hb
  exact ⟨v, L, h1, hL, ⟨u', hu'⟩, rfl, rfl⟩
end
/-- what is known of Lc is known of what holds it -/
theorem Has.of_sub {Lc L : List Ent} (h : Sub Lc L) {g : Nat} {c : Array Value} {t : TypeId} (hp : Has Lc g c t) : Has L g c t := ⟨h.out.subset hp.out⟩
/-- in world W block g holds c -/
class Old (W : World) (g : Nat) (c : outParam (Array Value)) (t : outParam TypeId) : Prop where
  out : W.heap[g]? = some (.cells c t (0, 0))
theorem KW.old {W : World} {L : List Ent} (u : KW W L) {g : Nat} {c : Array Value} {t : TypeId} (h : Old W g c t) : u.w.heap[g]? = some (.cells c t (0, 0)) :=
  (u.below.block g (Array.getElem?_eq_some_iff.1 h.out).1).trans h.out
theorem run_loadAt_old {P : Program} {w : World} {g o : Nat} {c : Array Value} {t t' : TypeId} {v : Value} (hp : w.heap[g]? = some (.cells c t' (0, 0))) (hq : CellV P t c o v) :
    (Instr.loadAt t (.pointer (some ⟨g, o, none⟩))).run P w = .ok v w := by
  have hc : w.cell? ⟨g, o, none⟩ = some v := by rw [cell_of_row _ _ _ _ _ _ hp, hq.at_]
  have h := hq.scal.out
  simp only [Instr.loadAt, Instr.sureAddr, Sem.run_bind, Sem.run_pure, Result.andThen_ok]
  unfold loadVar isAgg
  cases hu : P.underlying t with
  | none => rw [hu] at h; cases h
  | some d =>
    rw [hu] at h
    simp only [Sem.run_bind, run_underlying hu, Result.andThen_ok]
    cases d <;> first | (cases h; done) | simp [hc]
/-- a cell of a block that was there -/
theorem ls_old {P : Program} {ops : Array Oper} {rest : List Oper} {a : Act} {W : World} {L : List Ent} {u : KW W L} {Q : Exit → Act → World → Prop} {ty : TypeId} {ps : String} {af : Array Edge} {d : Tmp} {t t' : TypeId} {x : Operand} {v : Value} {g o : Nat} {c : Array Value}
    (hx : a.eval x = .pointer (some ⟨g, o, none⟩)) (hp : Old W g c t') (hq : CellV P t c o v)
    (h : wpList P ops Q rest (a.put (some d) v) u.w) : wpList P ops Q (⟨some d, .load t x, ty, ps, af, none⟩ :: rest) a u.w := by
  refine wpList_plain rfl fun K hK => ?_
  unfold Oper.wp execOp
  simp only [hx, Sem.run_bind, run_loadAt_old (u.old hp) hq, Result.andThen_ok, Sem.run_pure]
  exact hK _ _ h
end KM
